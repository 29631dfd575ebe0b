/-
  Who is still hungry: both sides.
-/
import Derived.Test.YtaioflkonpommaaDoorFb
namespace Go.Proofs.YtaioflkonpommaaDoor
open Go Go.ChangeShapes Go.WideShapes Go.ChangeAt Go.RowKit Go.Shelf

/-- What a flock has eaten. -/
def shE (f : Fd) (g : Nat → Int) (n : Nat) (F : Nat → Nat → Int) (i : Nat) : Int := ebS (rowsF (fdAR f g F n)) (fdAR f g F n).length i
def shL (f : Fd) (g : Nat → Int) (n : Nat) (F : Nat → Nat → Int) : Nat → List Int
  | 0 => []
  | k + 1 => if shE f g n F k < F k 1 * F k 2 then shL f g n F k ++ [(k : Int)] else shL f g n F k
theorem shL_yes {f : Fd} {g : Nat → Int} {n : Nat} {F : Nat → Nat → Int} {k : Nat} (h : shE f g n F k < F k 1 * F k 2) : shL f g n F (k + 1) = shL f g n F k ++ [(k : Int)] := by rw [shL, if_pos h]
theorem shL_no {f : Fd} {g : Nat → Int} {n : Nat} {F : Nat → Nat → Int} {k : Nat} (h : ¬ shE f g n F k < F k 1 * F k 2) : shL f g n F (k + 1) = shL f g n F k := by rw [shL, if_neg h]
theorem shL_len (f : Fd) (g : Nat → Int) (n : Nat) (F : Nat → Nat → Int) : ∀ k, (shL f g n F k).length ≤ k
  | 0 => Nat.le_refl _
  | k + 1 => by
    have := shL_len f g n F k
    unfold shL; split
    · simp; omega
    · omega
def shN (f : Fd) (g : Nat → Int) (n : Nat) (F : Nat → Nat → Int) : Nat := if alOk f g n F then (shL f g n F n).length else 0
theorem shN_le (f : Fd) (g : Nat → Int) (n : Nat) (F : Nat → Nat → Int) : shN f g n F ≤ 12 := by
  unfold shN
  split
  · rename_i h
    have h1 := shL_len f g n F n
    have h2 := (al_parts h).2.1
    omega
  · omega
def ShP (f : Fd) (g : Nat → Int) (n : Nat) (F : Nat → Nat → Int) (w : World) (e : Ending) (w' : World) : Prop :=
  ∃ p c, e = .returned (.tuple #[.slice p (shN f g n F) c, .int .i64 (alCode f g n F)]) ∧ NV w.heap.size w'.heap.size w' p (shN f g n F) (fun i => (shL f g n F n).getD i 0) ∧ NW w.heap.size w'.heap.size w' p (shN f g n F) ∧ Below w.heap.size w w'
theorem shP_ok {f : Fd} {g : Nat → Int} {n : Nat} {F : Nat → Nat → Int} {w w' : World} (hok : alOk f g n F = true) {v : Value} {nb : Nat} (ho : w'.ownsRow nb 2 1 v (shL f g n F n).length ((shL f g n F n).map (Value.int .i64))) (hn : w.heap.size ≤ nb) (hb : Below w.heap.size w w') :
    ShP f g n F w (.returned (.tuple #[v, .int .i64 0])) w' := by
  have hN : shN f g n F = (shL f g n F n).length := by unfold shN; rw [hok]; rfl
  have hC : alCode f g n F = 0 := by unfold alCode; rw [hok]; rfl
  obtain ⟨p, c, rfl, V, X⟩ := Nown rfl ho
  exact ⟨p, c, by rw [hN, hC], by rw [hN]; exact V.mono hn (Nat.le_refl _), by rw [hN]; exact X.mono hn (Nat.le_refl _), hb⟩
theorem shP_bad {f : Fd} {g : Nat → Int} {n : Nat} {F : Nat → Nat → Int} {w w' : World} (hok : alOk f g n F = false) (p : Option Addr) (c : Nat) (hb : Below w.heap.size w w') : ShP f g n F w (.returned (.tuple #[.slice p 0 c, .int .i64 1])) w' := by
  have hN : shN f g n F = 0 := by unfold shN; rw [hok]; rfl
  have hC : alCode f g n F = 1 := by unfold alCode; rw [hok]; rfl
  exact ⟨p, c, by rw [hN, hC], by rw [hN]; exact .inl rfl, by rw [hN]; exact .inl rfl, hb⟩
theorem wf_lit8 {x : Int} (h0 : 0 ≤ x) (h1 : x ≤ 127) : (Lit.int .i8 x).wf = true := by
  have e1 : IntKind.i8.min = -128 := by decide
  have e2 : IntKind.i8.max = 127 := by decide
  simp [Lit.wf, e1, e2]; omega
theorem wf_lit16 {x : Int} (h0 : 0 ≤ x) (h1 : x ≤ 32767) : (Lit.int .i16 x).wf = true := by
  have e1 : IntKind.i16.min = -32768 := by decide
  have e2 : IntKind.i16.max = 32767 := by decide
  simp [Lit.wf, e1, e2]; omega
/-- The visits' numbers are in bounds. -/
theorem fdV_in {f : Fd} {g a : Nat → Int} {u : Int} (hu : 0 ≤ u ∧ u ≤ 11) {k : Nat} (hok : okF (fdF f g a k) = true) (hg : fdGo f g a k = true) (hl : fdL f g a k ≤ 4000) : (0 ≤ fdV u f g a k 0 ∧ fdV u f g a k 0 ≤ 11) ∧ (0 ≤ fdV u f g a k 1 ∧ fdV u f g a k 1 ≤ 99) ∧ 0 ≤ fdV u f g a k 2 ∧ fdV u f g a k 2 ≤ 1000 := by
  obtain ⟨n, hn, _, _, _, s0, s1, _, _, m1, m2, m3, eV⟩ := fd_meal hok hg
  rw [eV u]
  simp only [if_pos rfl, show ¬ ((1 : Nat) = 0) by decide, show ¬ ((2 : Nat) = 0) by decide, show ¬ ((2 : Nat) = 1) by decide, if_false, if_true]
  exact ⟨hu, by omega, by omega, by omega⟩
theorem fdW_below {f : Fd} {g a : Nat → Int} : ∀ k j, j < fdW f g a k → fdW f g a j = j ∧ fdGo f g a j = true
  | 0, j, h => absurd h (by simp [fdW])
  | k + 1, j, h => by
    by_cases hc : fdW f g a k = k ∧ fdGo f g a k = true
    · rw [fdW_go hc.1 hc.2] at h
      by_cases e : j = k
      · rw [e]; exact hc
      · exact fdW_below k j (by rw [hc.1]; omega)
    · have e : fdW f g a (k + 1) = fdW f g a k := by
        show (if fdW f g a k = k ∧ fdGo f g a k = true then k + 1 else fdW f g a k) = _
        rw [if_neg hc]
      rw [e] at h
      exact fdW_below k j h
theorem fdR_in {f : Fd} {g a : Nat → Int} {u : Int} (hf : f.Wf) (hok : okF f = true) (hh : 0 ≤ a 1 * a 2 ∧ a 1 * a 2 ≤ 4000) (hu : 0 ≤ u ∧ u ≤ 11) : ∀ r ∈ fdR u f g a (fdN f g a), (0 ≤ r 0 ∧ r 0 ≤ 11 ∧ r 0 = u) ∧ (0 ≤ r 1 ∧ r 1 ≤ 99) ∧ 0 ≤ r 2 ∧ r 2 ≤ 1000 := by
  intro r hr
  unfold fdR at hr
  obtain ⟨j, hj, rfl⟩ := List.mem_map.1 hr
  have hj' : j < fdN f g a := List.mem_range.1 hj
  obtain ⟨h1, h2⟩ := fdW_below 4 j hj'
  obtain ⟨q1, q2, q3, q4⟩ := fd_ok (g := g) hf hok hh j h1
  obtain ⟨r1, r2, r3⟩ := fdV_in hu q1 h2 (by omega)
  exact ⟨⟨r1.1, r1.2, rfl⟩, r2, r3⟩
theorem fdAR_in {f : Fd} {g : Nat → Int} {F : Nat → Nat → Int} {n : Nat} (hn : n ≤ 12) (hf : f.Wf) (hok : okF f = true) (hF : ∀ i, i < n → flockOk f (F i) = true) : ∀ i, i ≤ n → ∀ r ∈ fdAR f g F i, (0 ≤ r 0 ∧ r 0 < (i : Int)) ∧ (0 ≤ r 1 ∧ r 1 ≤ 99) ∧ 0 ≤ r 2 ∧ r 2 ≤ 1000
  | 0, _, r, hr => by cases hr
  | i + 1, hi, r, hr => by
    rcases List.mem_append.1 (show r ∈ fdAR f g F i ++ fdR (i : Int) (fdA f g F i) g (F i) (fdN (fdA f g F i) g (F i)) from hr) with h | h
    · obtain ⟨q1, q2, q3⟩ := fdAR_in hn hf hok hF i (by omega) r h
      exact ⟨⟨q1.1, by omega⟩, q2, q3⟩
    · obtain ⟨h1, h2⟩ := fdA_ok (g := g) hf hok hF i (by omega)
      obtain ⟨⟨q1, q2, q3⟩, q4, q5⟩ := fdR_in h2 h1 (flock_hunger (hF i (by omega))) (u := (i : Int)) ⟨by omega, by omega⟩ r h
      exact ⟨⟨q1, by omega⟩, q4, q5⟩
theorem fdAR_wf {f : Fd} {g : Nat → Int} {F : Nat → Nat → Int} {n : Nat} (hn : n ≤ 12) (hf : f.Wf) (hok : okF f = true) (hF : ∀ i, i < n → flockOk f (F i) = true) : WfS ksVisit (fdAR f g F n).length (rowsF (fdAR f g F n)) ∧ ebA n (fdAR f g F n).length (rowsF (fdAR f g F n)) = true := by
  have key : ∀ i, i < (fdAR f g F n).length → (0 ≤ rowsF (fdAR f g F n) i 0 ∧ rowsF (fdAR f g F n) i 0 < (n : Int)) ∧ (0 ≤ rowsF (fdAR f g F n) i 1 ∧ rowsF (fdAR f g F n) i 1 ≤ 99) ∧ 0 ≤ rowsF (fdAR f g F n) i 2 ∧ rowsF (fdAR f g F n) i 2 ≤ 1000 := fun i hi => by
    have h := fdAR_in (g := g) hn hf hok hF n (Nat.le_refl _) ((fdAR f g F n)[i]) (List.getElem_mem hi)
    have e : rowsF (fdAR f g F n) i = (fdAR f g F n)[i] := by
      funext j
      simp [rowsF, List.getD, List.getElem?_eq_getElem hi]
    rw [e]; exact h
  refine ⟨fun i hi j hj => ?_, allTo_iff.2 (fun i hi => inB_iff.2 ⟨(key i hi).1.1, by have := (key i hi).1.2; omega⟩)⟩
  obtain ⟨h0, h1, h2⟩ := key i hi
  match j, hj with
  | 0, _ => exact wf_lit8 (by omega) (by omega)
  | 1, _ => exact wf_lit16 (by omega) (by omega)
  | 2, _ => exact wf_lit16 (by omega) (by omega)


theorem sums_nil (n : Nat) (hn : n ≤ 2 ^ 40) (G : Nat → Nat → Int) (p : Option Addr) (c : Nat) (w : World) : Calls Tryd.prog 60 #[.int .i64 n, .slice p 0 c] w fun e w' => e = .returned (.slice (some ⟨w.heap.size, 0, none⟩) n n) ∧ Mem w w' [⟨w.heap.size, acells .i64 n (ebS G 0), 2⟩] := by
  go_enter Tryd.func60, Tryd.ntmps60
  go_wp2_with (refine wpList_make (BY := 8) rfl 56 2 _ rfl n rfl [.i64] Tryd.underlying56 (by kernel_rfl) (by kernel_rfl) (by omega) (by omega) ?_)
  rw [scells_nums n (fun _ => 0)]
  obtain ⟨W, hW, M⟩ := open1 w (acells .i64 n (fun _ => 0)) 2
  rw [hW]; clear hW
  go_loopw [6] (fun i wr => i = .int .i64 0 ∧ Mem w wr [⟨w.heap.size, acells .i64 n (ebS G 0), 2⟩]) (fun _ _ => 0)
  case atStart => exact ⟨rfl, M⟩
  case round =>
    clear M
    obtain ⟨rfl, M⟩ := hrel
    go_wp2_with fail
    go_ret
    exact ⟨rfl, M⟩
theorem eaten_nil (n : Nat) (hn : n ≤ 2 ^ 40) (G : Nat → Nat → Int) (p0 : Option Addr) (c0 : Nat) (p : Option Addr) (c : Nat) (w : World) : Calls Tryd.prog 63 #[.slice p0 n c0, .slice p 0 c] w fun e w' => e = .returned (.slice (some ⟨w.heap.size, 0, none⟩) n n) ∧ Mem w w' [⟨w.heap.size, acells .i64 n (ebS G 0), 2⟩] := by
  go_enter Tryd.func63, Tryd.ntmps63
  go_wp2_with (refine wpList_make (BY := 8) rfl 56 2 _ rfl n rfl [.i64] Tryd.underlying56 (by kernel_rfl) (by kernel_rfl) (by omega) (by omega) ?_)
  rw [scells_nums n (fun _ => 0)]
  obtain ⟨W, hW, M⟩ := open1 w (acells .i64 n (fun _ => 0)) 2
  rw [hW]; clear hW
  go_loopw [13] (fun i wr => i = .int .i64 0 ∧ Mem w wr [⟨w.heap.size, acells .i64 n (ebS G 0), 2⟩]) (fun _ _ => 0)
  case atStart => exact ⟨rfl, M⟩
  case round =>
    clear M
    obtain ⟨rfl, M⟩ := hrel
    go_wp2_with fail
    go_ret
    exact ⟨rfl, M⟩
theorem sums_fa (n : Nat) (hn : n ≤ 2 ^ 40) (m : Nat) (hm : m ≤ 2 ^ 40) (G : Nat → Nat → Int) (hG : WfS ksVisit m G) (hA : ebA n m G = true) (lo : Nat) (p : Option Addr) (c : Nat) (w : World) (hS : SO ksVisit 32 lo w p m G) :
    Calls Tryd.prog 60 #[.int .i64 n, .slice p m c] w fun e w' => e = .returned (.slice (some ⟨w.heap.size, 0, none⟩) n n) ∧ Mem w w' [⟨w.heap.size, acells .i64 n (ebS G m), 2⟩] := by
  by_cases h0 : m = 0
  · subst h0; exact sums_nil n hn G p c w
  · obtain ⟨b, rfl, -⟩ := so_vis hS (k := 0) (by omega)
    exact l02Sums_any n hn m hm G hG hA b c w hS.insV
theorem eaten_fa (n : Nat) (hn : n ≤ 2 ^ 40) (p0 : Option Addr) (c0 : Nat) (m : Nat) (hm : m ≤ 2 ^ 40) (G : Nat → Nat → Int) (hG : WfS ksVisit m G) (hA : ebA n m G = true) (lo : Nat) (p : Option Addr) (c : Nat) (w : World) (hS : SO ksVisit 32 lo w p m G) :
    Calls Tryd.prog 63 #[.slice p0 n c0, .slice p m c] w fun e w' => e = .returned (.slice (some ⟨w.heap.size, 0, none⟩) n n) ∧ Mem w w' [⟨w.heap.size, acells .i64 n (ebS G m), 2⟩] := by
  by_cases h0 : m = 0
  · subst h0; exact eaten_nil n hn G p0 c0 p c w
  · obtain ⟨b, rfl, -⟩ := so_vis hS (k := 0) (by omega)
    exact eatenBy_any n hn p0 c0 m hm G hG hA b c w hS.insV

set_option maxRecDepth 100000 in
set_option maxHeartbeats 8000000 in
theorem specSth (f : Fd) (hf : f.Wf) (g : Nat → Int) (hg : Wf16 g) (n : Nat) (hn : n ≤ 2 ^ 40) (F : Nat → Nat → Int) (hF : WfS ksFlock n F) (d cp : Nat) (w : World) (I : InS w d 0 n ksFlock F) : Calls Tryd.prog 36 #[.agg (fcells f), .agg (acells .i16 100 g), .slice (some ⟨d, 0, none⟩) n cp] w (ShP f g n F w) := by
  have hz : Hid (Tryd.zeroCells30.size = 202) := Lib.hid (by rw [zeroFd, fcells_size])
  have HI := Lib.hid I
  have HAL := Lib.hid (fun (b c : Nat) (w : World) B G I => l02All_any f hf g hg n hn F hF b c d cp w B G I)
  clear I
  obtain ⟨i0, hinf, hz0, hz1, hz2⟩ := info_parts Ninfo
  cases hok : alOk f g n F with
  | false =>
    have hcode : alCode f g n F = 1 := by unfold alCode; rw [hok]; rfl
    have HC := Lib.hid hcode
    have HOK := Lib.hid hok
    clear hok hcode
    go_enter Tryd.func36, Tryd.ntmps36
    go_upto_region 1 with (fail)
    obtain ⟨W, hW, M⟩ := open2 w (fcells f) 30 (acells .i16 100 g) 36
    rw [hW]; clear hW
    go_wp2_with (go_at_call 53; refine (HAL.out w.heap.size (w.heap.size + 1) _ (M.at 0 rfl) (M.at 1 rfl) (HI.out.later M.below)).mono ?_; rintro e w1 ⟨rfl, rfl⟩; rw [HC.out])
    go_ret2
    exact shP_bad HOK.out _ _ (M.other _).below
  | true =>
    have hcode : alCode f g n F = 0 := by unfold alCode; rw [hok]; rfl
    have HC := Lib.hid hcode
    have HOK := Lib.hid hok
    obtain ⟨hfo, hn12, hFo⟩ := al_parts hok
    have HFE := Lib.hid (fun (c : Nat) (w : World) G I => l02Day_any f hf hfo g hg n hn12 F hF hFo c d cp w G I)
    obtain ⟨FF, hFF⟩ : ∃ FF, fdA f g F n = FF := ⟨_, rfl⟩
    have hvl := fdAR_len f g F n
    obtain ⟨hvw, hva⟩ := fdAR_wf (g := g) hn12 hf hfo hFo
    obtain ⟨G, hG⟩ : ∃ G, rowsF (fdAR f g F n) = G := ⟨_, rfl⟩
    obtain ⟨m, hm⟩ : ∃ m, (fdAR f g F n).length = m := ⟨_, rfl⟩
    have HFP : Hid (∀ (w : World) (e : Ending) (w' : World), FaP f g F n w e w' → ∃ v, e = .returned (.tuple #[.agg (fcells FF), v]) ∧ w'.ownsRow w.heap.size 32 3 v m (scells ksVisit m G).toList ∧ Below w.heap.size w w') := Lib.hid (fun w e w' h => by obtain ⟨v, h1, h2, h3⟩ := h; exact ⟨v, by rw [h1, hFF], by rw [← hm, ← hG]; exact h2, h3⟩)
    rw [hm, hG] at hvw hva
    rw [hm] at hvl
    have HE : Hid (ebS G m = shE f g n F) := Lib.hid (by funext i; show _ = ebS (rowsF (fdAR f g F n)) (fdAR f g F n).length i; rw [hm, hG])
    have HVW := Lib.hid hvw
    have HVA := Lib.hid hva
    have HWF := Lib.hid hF
    clear hFF hvw hva hG hm
    clear hok hcode hfo hFo
    go_enter Tryd.func36, Tryd.ntmps36
    go_upto_region 1 with (fail)
    obtain ⟨W, hW, M⟩ := open2 w (fcells f) 30 (acells .i16 100 g) 36
    rw [hW]; clear hW
    go_upto_region 5 with (first
      | (go_at_call 53; refine (HAL.out w.heap.size (w.heap.size + 1) _ (M.at 0 rfl) (M.at 1 rfl) (HI.out.later M.below)).mono ?_; rintro e w1 ⟨rfl, rfl⟩; rw [HC.out])
      | (refine wpList_load_part rfl 30 _ rfl w.heap.size 0 rfl (fcells f) _ (M.at 0 rfl).whole Tryd.underlying30 rfl (by rw [fcells_size]; exact sizeFd) ?_)
      | (go_at_call 54; refine (HFE.out _ _ (M.at 1 rfl) (HI.out.later M.below)).mono (fun e w' h => HFP.out _ e w' h) |>.mono ?_; rintro e W3 ⟨v, rfl, ho, hb⟩; have MA := (M.call hb).alloc Tryd.zeroCells30 30; clear hb)
      | (refine wpList_store_row rfl 30 _ _ rfl W3.heap.size (fcells FF) rfl rfl 30 _ (MA.at 2 rfl) (by rw [fcells_size]; exact sizeFd) (by rw [hz.out, fcells_size]) (fcells_one _) ?_; have MB := MA.row 2 rfl (fcells FF); have OB := own_later ho (below_row ((Below.refl W3.heap.size W3).alloc (Nat.le_refl _) (.cells Tryd.zeroCells30 30)) (Nat.le_refl _) (fcells FF)); clear MA ho))
    generalize World.setRow _ _ _ = V4 at MB OB ⊢
    obtain ⟨p1, c1, rfl, hS⟩ := Sown (ks := ksVisit) OB
    have HS := Lib.hid hS
    clear hS OB
    obtain ⟨b6, hb6⟩ : ∃ b6, V4.heap.size = b6 := ⟨_, rfl⟩
    go_upto_region 6 with (go_at_call 60; refine (sums_fa n hn m (by omega) G HVW.out HVA.out _ p1 c1 _ HS.out).mono ?_; rintro e W6 ⟨rfl, M6⟩)
    have HB6 := Lib.hid (MB.call M6.below).below
    rw [HE.out] at M6
    try rw [hb6] at M6
    try rw [hb6]
    have D := Lib.hid (fun w' (hb : Below W6.heap.size W6 w') q (hq : q < n) => ((M6.call hb).at 0 rfl).cell (acells_get .i64 n (shE f g n F) q hq))
    have s6 := HB6.out.size
    clear M6 MB HS hb6
    go_upto_region 7 with (fail)
    have R0 : (W6.alloc (.cells #[] 2)).ownsRow W6.heap.size 2 1 (.slice (some ⟨W6.heap.size, 0, none⟩) 0 0) 0 [] := World.ownsRow_made W6 #[] 0 (Nat.le_refl _) (Nat.zero_le _) (by simp)
    have HR0 := Lib.hid R0
    have C0 := Lib.hid ((Below.refl W6.heap.size W6).alloc (Nat.le_refl _) (.cells #[] 2))
    clear R0
    go_wp2_with fail
    go_loopw [12, 13] (fun v i wr => ∃ k : Nat, k ≤ n ∧ i = .int .i64 k ∧ Hid (wr.ownsRow W6.heap.size 2 1 v (shL f g n F k).length ((shL f g n F k).map (Value.int .i64))) ∧ Hid (Below W6.heap.size W6 wr)) (fun _ i _ => n - (intOf i).toNat)
    case atStart => exact ⟨0, by omega, rfl, HR0, C0⟩
    case round =>
      clear HR0 C0
      obtain ⟨k, hk, rfl, hO, hB2⟩ := hrel
      have hbw := Lib.hid (HB6.out.trans (hB2.out.mono HB6.out.size))
      have hll := shL_len f g n F k
      obtain ⟨R, hR⟩ : ∃ R, shL f g n F k = R := ⟨_, rfl⟩
      rw [hR] at hO hll
      by_cases hlt : k < n
      · have hra : WfR (F k) := WfS.row HWF.out hlt
        obtain ⟨x, hx⟩ : ∃ x, shE f g n F k = x := ⟨_, rfl⟩
        have g1 : Hid (∀ w', Below wr.heap.size wr w' → w'.cell? ⟨b6, k, none⟩ = some (.int .i64 x)) := Lib.hid (fun w' hw' => by rw [← hx]; exact D.out w' (hB2.out.trans (hw'.mono hB2.out.size)) k hlt)
        have HY : Hid (x < F k 1 * F k 2 → shL f g n F (k + 1) = R ++ [(k : Int)]) := Lib.hid (fun h => by rw [← hR]; exact shL_yes (by rw [hx]; exact h))
        have HNO : Hid (¬ x < F k 1 * F k 2 → shL f g n F (k + 1) = R) := Lib.hid (fun h => by rw [← hR]; exact shL_no (by rw [hx]; exact h))
        clear hx hR
        go_upto_region 10 with (fail)
        by_cases hc : x < F k 1 * F k 2
        · refine wp_region_rel (DL [dV (.slice (some ⟨b6, 0, none⟩) n n), dV (.int .i64 (k : Int)), dV (.pointer (some ⟨b6, 0 + k * 1, none⟩)), dV (.int .i64 x), dV (.slice (some ⟨d, 0, none⟩) n cp), dV (.int .i64 (k : Int)), dV (.pointer (some ⟨d, 0 + k * 6, none⟩)), dV (.int .i64 (F k 1 * F k 2)), dV (.bool true)]) (fun w' => Below wr.heap.size wr w') (by kernel_rfl) (by kernel_rfl) (fun _ _ h h' => h.trans (h'.mono h.size))
            (stays_DL (fun d hd => by
              simp only [List.mem_cons, List.mem_nil_iff, or_false] at hd
              rcases hd with rfl | rfl | rfl | rfl | rfl | rfl | rfl | rfl | rfl <;> exact stay_V)) (Below.refl _ _).drew ?_
          refine rel_val _ rfl rfl (fun _ _ => rfl) (fun _ => ?_)
          simp only [Act.put, List.setIfInBounds_toArray, List.set_cons_zero, List.set_cons_succ]
          refine rel_val _ rfl rfl (fun _ _ => rfl) (fun _ => ?_)
          simp only [Act.put, List.setIfInBounds_toArray, List.set_cons_zero, List.set_cons_succ]
          refine rel_index 56 2 _ _ rfl b6 0 n n 1 k rfl rfl hlt Tryd.underlying56 (by kernel_rfl) rfl rfl (fun _ => ?_)
          simp only [Act.put, List.setIfInBounds_toArray, List.set_cons_zero, List.set_cons_succ]
          refine rel_cell 2 _ rfl (b6) (0 + k * 1) rfl (.int .i64 x) rfl rfl (fun w' c => load_i64V _ _ _ w' c) (fun w' hw' => by have h := g1.out w' hw'; rw [Nat.zero_add, Nat.mul_one]; exact h) (fun _ => ?_)
          simp only [Act.put, List.setIfInBounds_toArray, List.set_cons_zero, List.set_cons_succ]
          refine rel_val _ rfl rfl (fun _ _ => rfl) (fun _ => ?_)
          simp only [Act.put, List.setIfInBounds_toArray, List.set_cons_zero, List.set_cons_succ]
          refine rel_val _ rfl rfl (fun _ _ => rfl) (fun _ => ?_)
          simp only [Act.put, List.setIfInBounds_toArray, List.set_cons_zero, List.set_cons_succ]
          refine rel_index 51 38 _ _ rfl d 0 n cp 6 k rfl rfl hlt Tryd.underlying51 (by kernel_rfl) rfl rfl (fun _ => ?_)
          simp only [Act.put, List.setIfInBounds_toArray, List.set_cons_zero, List.set_cons_succ]
          refine rel_call (.int .i64 (F k 1 * F k 2)) 40 #[.pointer (some ⟨d, 0 + k * 6, none⟩)] rfl rfl rfl rfl (enters_of Tryd.func40 (by kernel_rfl) rfl) (fun w' hw' => l02Hunger_any (F k) hra d (0 + k * 6) w' (flkAt_of (InS.elem (ks := ksFlock) HI.out (by decide) (hbw.out.trans (hw'.mono hbw.out.size)) hlt))) (fun _ => ?_)
          simp only [Act.put, List.setIfInBounds_toArray, List.set_cons_zero, List.set_cons_succ]
          refine rel_val (.bool true) rfl rfl (fun w' _ => by simp [execOp, Act.eval, go_sem, hc]) (fun _ => ?_)
          simp only [Act.put, List.setIfInBounds_toArray, List.set_cons_zero, List.set_cons_succ]
          refine rel_nil (fun W5 inv => ?_)
          have hb5 := inv.cls
          clear inv
          have hO5 := Lib.hid (own_later hO.out hb5)
          have hB5 := Lib.hid (hB2.out.trans (hb5.mono hB2.out.size))
          have hbs := hB5.out.size
          clear hO hb5
          go_wp2_with (at_builtin; refine wpList_append_own _ rfl _ _ 56 rfl W6.heap.size 2 i0 (.int .i64 0) 1 8 Tryd.underlying56 hinf hz0 hz1 hz2 rfl (by decide) _ _ _ rfl (hO5.out.alloc _) ⟨W5.heap.size, 0, none⟩ 1 1 [.int .i64 (k : Int)] rfl rfl ?c1 ?c2 ?c3 ?c4 ?c5 ?_)
          try (case c1 => exact row_new W5 [.int .i64 (k : Int)] 2)
          try (case c2 => first | rfl | (intro u hu; simp at hu; subst hu; rfl))
          try (case c3 => first | (unfold maxLen; omega) | omega)
          try (case c4 => first | omega | (simp; omega))
          try (case c5 => first | (simp; omega) | omega)
          intro v2 w2 ho2 hg2 _
          have C2 : Hid (Below W6.heap.size W6 w2) := Lib.hid (below_own (hB5.out.alloc hbs _) (by simp; omega) (hO5.out.alloc _) hg2)
          have O2 : Hid (w2.ownsRow W6.heap.size 2 1 v2 (shL f g n F (k + 1)).length ((shL f g n F (k + 1)).map (Value.int .i64))) := Lib.hid (by rw [HY.out hc, List.map_append, List.length_append]; exact ho2)
          clear ho2 hg2
          go_wp2_with fail
          go_roundw
          case rel => exact ⟨k + 1, by omega, by go_num, O2, C2⟩
          case measure => simp [intOf]; omega
        · refine wp_region_rel (DL [dV (.slice (some ⟨b6, 0, none⟩) n n), dV (.int .i64 (k : Int)), dV (.pointer (some ⟨b6, 0 + k * 1, none⟩)), dV (.int .i64 x), dV (.slice (some ⟨d, 0, none⟩) n cp), dV (.int .i64 (k : Int)), dV (.pointer (some ⟨d, 0 + k * 6, none⟩)), dV (.int .i64 (F k 1 * F k 2)), dV (.bool false)]) (fun w' => Below wr.heap.size wr w') (by kernel_rfl) (by kernel_rfl) (fun _ _ h h' => h.trans (h'.mono h.size))
            (stays_DL (fun d hd => by
              simp only [List.mem_cons, List.mem_nil_iff, or_false] at hd
              rcases hd with rfl | rfl | rfl | rfl | rfl | rfl | rfl | rfl | rfl <;> exact stay_V)) (Below.refl _ _).drew ?_
          refine rel_val _ rfl rfl (fun _ _ => rfl) (fun _ => ?_)
          simp only [Act.put, List.setIfInBounds_toArray, List.set_cons_zero, List.set_cons_succ]
          refine rel_val _ rfl rfl (fun _ _ => rfl) (fun _ => ?_)
          simp only [Act.put, List.setIfInBounds_toArray, List.set_cons_zero, List.set_cons_succ]
          refine rel_index 56 2 _ _ rfl b6 0 n n 1 k rfl rfl hlt Tryd.underlying56 (by kernel_rfl) rfl rfl (fun _ => ?_)
          simp only [Act.put, List.setIfInBounds_toArray, List.set_cons_zero, List.set_cons_succ]
          refine rel_cell 2 _ rfl (b6) (0 + k * 1) rfl (.int .i64 x) rfl rfl (fun w' c => load_i64V _ _ _ w' c) (fun w' hw' => by have h := g1.out w' hw'; rw [Nat.zero_add, Nat.mul_one]; exact h) (fun _ => ?_)
          simp only [Act.put, List.setIfInBounds_toArray, List.set_cons_zero, List.set_cons_succ]
          refine rel_val _ rfl rfl (fun _ _ => rfl) (fun _ => ?_)
          simp only [Act.put, List.setIfInBounds_toArray, List.set_cons_zero, List.set_cons_succ]
          refine rel_val _ rfl rfl (fun _ _ => rfl) (fun _ => ?_)
          simp only [Act.put, List.setIfInBounds_toArray, List.set_cons_zero, List.set_cons_succ]
          refine rel_index 51 38 _ _ rfl d 0 n cp 6 k rfl rfl hlt Tryd.underlying51 (by kernel_rfl) rfl rfl (fun _ => ?_)
          simp only [Act.put, List.setIfInBounds_toArray, List.set_cons_zero, List.set_cons_succ]
          refine rel_call (.int .i64 (F k 1 * F k 2)) 40 #[.pointer (some ⟨d, 0 + k * 6, none⟩)] rfl rfl rfl rfl (enters_of Tryd.func40 (by kernel_rfl) rfl) (fun w' hw' => l02Hunger_any (F k) hra d (0 + k * 6) w' (flkAt_of (InS.elem (ks := ksFlock) HI.out (by decide) (hbw.out.trans (hw'.mono hbw.out.size)) hlt))) (fun _ => ?_)
          simp only [Act.put, List.setIfInBounds_toArray, List.set_cons_zero, List.set_cons_succ]
          refine rel_val (.bool false) rfl rfl (fun w' _ => by simp [execOp, Act.eval, go_sem, hc]) (fun _ => ?_)
          simp only [Act.put, List.setIfInBounds_toArray, List.set_cons_zero, List.set_cons_succ]
          refine rel_nil (fun W5 inv => ?_)
          have hb5 := inv.cls
          clear inv
          have hO5 := Lib.hid (own_later hO.out hb5)
          have hB5 := Lib.hid (hB2.out.trans (hb5.mono hB2.out.size))
          have hbs := hB5.out.size
          clear hO hb5
          have O2 := hO5.out
          rw [← HNO.out hc] at O2
          replace O2 := Lib.hid O2
          go_wp2_with fail
          go_roundw
          case rel => exact ⟨k + 1, by omega, by go_num, O2, hB5⟩
          case measure => simp [intOf]; omega
      · obtain rfl : k = n := by omega
        go_wp2_with fail
        go_ret2
        exact shP_ok HOK.out (by rw [hR]; exact hO.out) s6 hbw.out

set_option maxRecDepth 100000 in
set_option maxHeartbeats 8000000 in
theorem implSth (f : Fd) (hf : f.Wf) (g : Nat → Int) (hg : Wf16 g) (n : Nat) (hn : n ≤ 2 ^ 40) (F : Nat → Nat → Int) (hF : WfS ksFlock n F) (d cp : Nat) (A : Nat → Addr) (w : World) (T0 : TabAt w) (S0 : Sents w A) (I : InS w d 0 n ksFlock F) : Calls Tryd.prog 37 #[.agg (fcells f), .agg (acells .i16 100 g), .slice (some ⟨d, 0, none⟩) n cp] w (ShP f g n F w) := by
  have S := Lib.hid S0
  have T := Lib.hid T0
  have HI := Lib.hid I
  clear S0 T0 I
  have hif := isIfaceErr
  have hz : Hid (Tryd.zeroCells30.size = 202) := Lib.hid (by rw [zeroFd, fcells_size])
  have HCB := Lib.hid (fun (eb : Nat) (w : World) T S I E => checkBirds1 f hf n hn F hF g hg A d cp eb 36 w T S I E)
  obtain ⟨i0, hinf, hz0, hz1, hz2⟩ := info_parts Ninfo
  cases hok : alOk f g n F with
  | false =>
    have HOK := Lib.hid hok
    clear hok
    go_enter Tryd.func37, Tryd.ntmps37
    go_upto_region 1 with (fail)
    obtain ⟨W, hW, M⟩ := open2 w (fcells f) 30 (acells .i16 100 g) 36
    rw [hW]; clear hW
    have oa1 : True := trivial
    have oa2 : True := trivial
    have oa3 : True := trivial
    go_wp2_with (first
      | (clear oa1; refine wpList_load_part rfl 30 _ rfl w.heap.size 0 rfl (fcells f) _ (M.at 0 rfl).whole Tryd.underlying30 rfl (by rw [fcells_size]; exact sizeFd) ?_)
      | (clear oa2; refine wpList_load_part rfl 36 _ rfl (w.heap.size + 1) 0 rfl (acells .i16 100 g) _ (M.at 1 rfl).whole Tryd.underlying36 rfl (by rw [acells_size]; exact sizeE) ?_)
      | (clear oa3; refine wpList_buildRow rfl 110 36 _ rfl (acells .i16 100 g) rfl Tryd.underlying110 (by rw [acells_size]; exact sizeE) (by rw [acells_size]; kernel_rfl) (by rw [acells_size]; omega) (by rw [acells_size]; omega) ?_; have MB0 := M.alloc (acells .i16 100 g) 36)
      | (go_at_call 44; refine (HCB.out W.heap.size _ (T.out.later MB0.below) (S.out.later MB0.below) (HI.out.later MB0.below) (MB0.at 2 rfl)).mono ?_; rintro e W2 ⟨rfl, hb⟩; rw [okBirdsL, HOK.out]; simp only [errIf, Bool.false_eq_true, if_false, if_true]; have M2 := MB0.call hb; clear hb MB0)
      | (go_at_call 45; refine (codeOf_err A 1 (by omega) (by omega) _ (S.out.later M2.below)).mono ?_; rintro e W9 ⟨rfl, rfl⟩))
    go_ret2
    exact shP_bad HOK.out _ _ M2.below
  | true =>
    have HOK := Lib.hid hok
    obtain ⟨hfo, hn12, hFo⟩ := al_parts hok
    have HFE := Lib.hid (fun (w : World) S I => fedAll_any f hf hfo g hg n hn12 F hF hFo d cp A w S I)
    obtain ⟨FF, hFF⟩ : ∃ FF, fdA f g F n = FF := ⟨_, rfl⟩
    have hvl := fdAR_len f g F n
    obtain ⟨hvw, hva⟩ := fdAR_wf (g := g) hn12 hf hfo hFo
    obtain ⟨G, hG⟩ : ∃ G, rowsF (fdAR f g F n) = G := ⟨_, rfl⟩
    obtain ⟨m, hm⟩ : ∃ m, (fdAR f g F n).length = m := ⟨_, rfl⟩
    have HFP : Hid (∀ (w : World) (e : Ending) (w' : World), FaP f g F n w e w' → ∃ v, e = .returned (.tuple #[.agg (fcells FF), v]) ∧ w'.ownsRow w.heap.size 32 3 v m (scells ksVisit m G).toList ∧ Below w.heap.size w w') := Lib.hid (fun w e w' h => by obtain ⟨v, h1, h2, h3⟩ := h; exact ⟨v, by rw [h1, hFF], by rw [← hm, ← hG]; exact h2, h3⟩)
    rw [hm, hG] at hvw hva
    rw [hm] at hvl
    have HE : Hid (ebS G m = shE f g n F) := Lib.hid (by funext i; show _ = ebS (rowsF (fdAR f g F n)) (fdAR f g F n).length i; rw [hm, hG])
    have HVW := Lib.hid hvw
    have HVA := Lib.hid hva
    have HWF := Lib.hid hF
    clear hFF hvw hva hG hm
    clear hok hfo hFo
    go_enter Tryd.func37, Tryd.ntmps37
    go_upto_region 1 with (fail)
    obtain ⟨W, hW, M⟩ := open2 w (fcells f) 30 (acells .i16 100 g) 36
    rw [hW]; clear hW
    have oa1 : True := trivial
    have oa2 : True := trivial
    have oa3 : True := trivial
    have ok1 : True := trivial
    have ok2 : True := trivial
    go_upto_region 5 with (first
      | (clear oa1; refine wpList_load_part rfl 30 _ rfl w.heap.size 0 rfl (fcells f) _ (M.at 0 rfl).whole Tryd.underlying30 rfl (by rw [fcells_size]; exact sizeFd) ?_)
      | (clear oa2; refine wpList_load_part rfl 36 _ rfl (w.heap.size + 1) 0 rfl (acells .i16 100 g) _ (M.at 1 rfl).whole Tryd.underlying36 rfl (by rw [acells_size]; exact sizeE) ?_)
      | (clear oa3; refine wpList_buildRow rfl 110 36 _ rfl (acells .i16 100 g) rfl Tryd.underlying110 (by rw [acells_size]; exact sizeE) (by rw [acells_size]; kernel_rfl) (by rw [acells_size]; omega) (by rw [acells_size]; omega) ?_; have MB0 := M.alloc (acells .i16 100 g) 36)
      | (go_at_call 44; refine (HCB.out W.heap.size _ (T.out.later MB0.below) (S.out.later MB0.below) (HI.out.later MB0.below) (MB0.at 2 rfl)).mono ?_; rintro e W2 ⟨rfl, hb⟩; rw [okBirdsL, HOK.out]; simp only [errIf, Bool.false_eq_true, if_false, if_true]; have M2 := MB0.call hb; clear hb MB0)
      | (clear ok1; refine wpList_load_part rfl 30 _ rfl w.heap.size 0 rfl (fcells f) _ (M2.at 0 rfl).whole Tryd.underlying30 rfl (by rw [fcells_size]; exact sizeFd) ?_)
      | (clear ok2; refine wpList_load_part rfl 36 _ rfl (w.heap.size + 1) 0 rfl (acells .i16 100 g) _ (M2.at 1 rfl).whole Tryd.underlying36 rfl (by rw [acells_size]; exact sizeE) ?_)
      | (go_at_call 55; refine (HFE.out _ (S.out.later M2.below) (HI.out.later M2.below)).mono (fun e w' h => HFP.out _ e w' h) |>.mono ?_; rintro e W3 ⟨v, rfl, ho, hb⟩; have MA := (M2.call hb).alloc Tryd.zeroCells30 30; clear hb)
      | (refine wpList_store_row rfl 30 _ _ rfl W3.heap.size (fcells FF) rfl rfl 30 _ (MA.at 3 rfl) (by rw [fcells_size]; exact sizeFd) (by rw [hz.out, fcells_size]) (fcells_one _) ?_; have MB := MA.row 3 rfl (fcells FF); have OB := own_later ho (below_row ((Below.refl W3.heap.size W3).alloc (Nat.le_refl _) (.cells Tryd.zeroCells30 30)) (Nat.le_refl _) (fcells FF)); clear MA ho))
    generalize World.setRow _ _ _ = V4 at MB OB ⊢
    obtain ⟨p1, c1, rfl, hS⟩ := Sown (ks := ksVisit) OB
    have HS := Lib.hid hS
    clear hS OB
    obtain ⟨b6, hb6⟩ : ∃ b6, V4.heap.size = b6 := ⟨_, rfl⟩
    go_upto_region 7 with (go_at_call 63; refine (eaten_fa n hn (some ⟨d, 0, none⟩) cp m (by omega) G HVW.out HVA.out _ p1 c1 _ HS.out).mono ?_; rintro e W6 ⟨rfl, M6⟩)
    have HB6 := Lib.hid (MB.call M6.below).below
    rw [HE.out] at M6
    try rw [hb6] at M6
    try rw [hb6]
    have D := Lib.hid (fun w' (hb : Below W6.heap.size W6 w') q (hq : q < n) => ((M6.call hb).at 0 rfl).cell (acells_get .i64 n (shE f g n F) q hq))
    have s6 := HB6.out.size
    clear M6 MB HS hb6
    have R0 : W6.ownsRow W6.heap.size 2 1 (.slice none 0 0) 0 [] := World.ownsRow_nil _ _ _ _
    have HR0 := Lib.hid R0
    have C0 := Lib.hid (Below.refl W6.heap.size W6)
    clear R0
    go_loopw [11, 34] (fun v i wr => ∃ k : Nat, k ≤ n ∧ i = .int .i64 k ∧ Hid (wr.ownsRow W6.heap.size 2 1 v (shL f g n F k).length ((shL f g n F k).map (Value.int .i64))) ∧ Hid (Below W6.heap.size W6 wr)) (fun _ i _ => n - (intOf i).toNat)
    case atStart => exact ⟨0, by omega, rfl, HR0, C0⟩
    case round =>
      clear HR0 C0
      obtain ⟨k, hk, rfl, hO, hB2⟩ := hrel
      have hbw := Lib.hid (HB6.out.trans (hB2.out.mono HB6.out.size))
      have hll := shL_len f g n F k
      obtain ⟨R, hR⟩ : ∃ R, shL f g n F k = R := ⟨_, rfl⟩
      rw [hR] at hO hll
      by_cases hlt : k < n
      · have hra : WfR (F k) := WfS.row HWF.out hlt
        obtain ⟨x, hx⟩ : ∃ x, shE f g n F k = x := ⟨_, rfl⟩
        have g1 : Hid (∀ w', Below wr.heap.size wr w' → w'.cell? ⟨b6, k, none⟩ = some (.int .i64 x)) := Lib.hid (fun w' hw' => by rw [← hx]; exact D.out w' (hB2.out.trans (hw'.mono hB2.out.size)) k hlt)
        have HY : Hid (x < F k 1 * F k 2 → shL f g n F (k + 1) = R ++ [(k : Int)]) := Lib.hid (fun h => by rw [← hR]; exact shL_yes (by rw [hx]; exact h))
        have HNO : Hid (¬ x < F k 1 * F k 2 → shL f g n F (k + 1) = R) := Lib.hid (fun h => by rw [← hR]; exact shL_no (by rw [hx]; exact h))
        clear hx hR
        have d6 := g1.out wr (Below.refl _ _)
        have hr : wr.rangeAt d (0 + k * 6) (cFlk (F k)).toList := InS.elem (ks := ksFlock) HI.out (by decide) hbw.out hlt
        rw [Nat.zero_add] at hr
        by_cases hc : x < F k 1 * F k 2
        · go_upto_region 10 with (first
            | (refine wpList_load_part rfl 38 _ rfl _ _ rfl (cFlk (F k)) _ hr Tryd.underlying38 rfl (by kernel_rfl) ?_)
            | (go_at_call 47; refine (hunger_any (F k) hra _).mono ?_; rintro e9 W5 ⟨rfl, hb5⟩))
          have hO5 := Lib.hid (own_later hO.out hb5)
          have hB5 := Lib.hid (hB2.out.trans (hb5.mono hB2.out.size))
          have hbs := hB5.out.size
          clear hO hb5
          go_wp2_with (at_builtin; refine wpList_append_own _ rfl _ _ 56 rfl W6.heap.size 2 i0 (.int .i64 0) 1 8 Tryd.underlying56 hinf hz0 hz1 hz2 rfl (by decide) _ _ _ rfl (hO5.out.alloc _) ⟨W5.heap.size, 0, none⟩ 1 1 [.int .i64 (k : Int)] rfl rfl ?c1 ?c2 ?c3 ?c4 ?c5 ?_)
          try (case c1 => exact row_new W5 [.int .i64 (k : Int)] 2)
          try (case c2 => first | rfl | (intro u hu; simp at hu; subst hu; rfl))
          try (case c3 => first | (unfold maxLen; omega) | omega)
          try (case c4 => first | omega | (simp; omega))
          try (case c5 => first | (simp; omega) | omega)
          intro v2 w2 ho2 hg2 _
          have C2 : Hid (Below W6.heap.size W6 w2) := Lib.hid (below_own (hB5.out.alloc hbs _) (by simp; omega) (hO5.out.alloc _) hg2)
          have O2 : Hid (w2.ownsRow W6.heap.size 2 1 v2 (shL f g n F (k + 1)).length ((shL f g n F (k + 1)).map (Value.int .i64))) := Lib.hid (by rw [HY.out hc, List.map_append, List.length_append]; exact ho2)
          clear ho2 hg2
          go_wp2_with fail
          go_roundw
          case rel => exact ⟨k + 1, by omega, by go_num, O2, C2⟩
          case measure => simp [intOf]; omega
        · go_upto_region 11 with (first
            | (refine wpList_load_part rfl 38 _ rfl _ _ rfl (cFlk (F k)) _ hr Tryd.underlying38 rfl (by kernel_rfl) ?_)
            | (go_at_call 47; refine (hunger_any (F k) hra _).mono ?_; rintro e9 W5 ⟨rfl, hb5⟩))
          have hO5 := Lib.hid (own_later hO.out hb5)
          have hB5 := Lib.hid (hB2.out.trans (hb5.mono hB2.out.size))
          have hbs := hB5.out.size
          clear hO hb5
          have O2 := hO5.out
          rw [← HNO.out hc] at O2
          replace O2 := Lib.hid O2
          go_wp2_with fail
          go_roundw
          case rel => exact ⟨k + 1, by omega, by go_num, O2, hB5⟩
          case measure => simp [intOf]; omega
      · obtain rfl : k = n := by omega
        go_wp2_with fail
        go_ret2
        exact shP_ok HOK.out (by rw [hR]; exact hO.out) s6 hbw.out

end Go.Proofs.YtaioflkonpommaaDoor
