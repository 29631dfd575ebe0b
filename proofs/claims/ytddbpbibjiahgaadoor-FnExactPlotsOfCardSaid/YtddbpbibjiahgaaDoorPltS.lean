/-
  PlotsOf: the model's.
-/
import Derived.Test.YtddbpbibjiahgaaDoorRowsL
import Derived.Test.YtddbpbibjiahgaaDoorLstP
import Derived.Test.YtddbpbibjiahgaaDoorRip
import Derived.Test.YtddbpbibjiahgaaDoorCoreC
import Derived.Test.YtddbpbibjiahgaaDoorCoreA
namespace Go.Proofs.YtddbpbibjiahgaaDoor
open Go Go.RowKit Go.Shelf
attribute [local go_sem] Oper.semAt_some

/-- The plot of a cell. -/
def plotR (f : Fd) (r k l : Int) (c : Nat) : Nat → Int := fun j => if j = 0 then f.S c else if j = 1 then r else if j = 2 then k else l
/-- The plots of the cells below n. -/
def plotsR (f : Fd) (r k l : Int) : Nat → List (Nat → Int)
  | 0 => []
  | n + 1 => if 0 < f.S n then plotsR f r k l n ++ [plotR f r k l n] else plotsR f r k l n
theorem plotsR_yes {f : Fd} {r k l : Int} {n : Nat} (h : 0 < f.S n) : plotsR f r k l (n + 1) = plotsR f r k l n ++ [plotR f r k l n] := by rw [plotsR, if_pos h]
theorem plotsR_no {f : Fd} {r k l : Int} {n : Nat} (h : ¬ 0 < f.S n) : plotsR f r k l (n + 1) = plotsR f r k l n := by rw [plotsR, if_neg h]
theorem plotsR_le (f : Fd) (r k l : Int) : ∀ n, (plotsR f r k l n).length ≤ n
  | 0 => Nat.le_refl _
  | n + 1 => by
    have := plotsR_le f r k l n
    unfold plotsR; split
    · simp; omega
    · omega
def plotsX {f : Fd} (r k l : Int) (cs : List (CellOf f)) : List (Nat → Int) := cs.foldl (fun R c => if 0 < f.S c.1 then R ++ [plotR f r k l c.1] else R) []
theorem plotsX_snoc {f : Fd} (r k l : Int) (cs : List (CellOf f)) (c : CellOf f) : plotsX r k l (cs ++ [c]) = if 0 < f.S c.1 then plotsX r k l cs ++ [plotR f r k l c.1] else plotsX r k l cs := by simp only [plotsX, List.foldl_append, List.foldl_cons, List.foldl_nil]
theorem okF_outer {f : Fd} (h : okF f = true) {i : Nat} (hi : i < 100) (hc : isCell f (i : Int) = false) : f.S i = 0 := by
  simp only [okF, Bool.and_eq_true] at h
  have := allTo_iff.1 h.2 i hi
  simp only [cellOk, Bool.and_eq_true, hc, Bool.false_or] at this
  simpa using this.2.2
theorem okF_seeds {f : Fd} (h : okF f = true) {i : Nat} (hi : i < 100) : 0 ≤ f.S i ∧ f.S i ≤ 1000 := by
  simp only [okF, Bool.and_eq_true] at h
  have := allTo_iff.1 h.2 i hi
  simp only [cellOk, Bool.and_eq_true] at this
  exact inB_iff.1 this.1.1.2
theorem plotsX_to (f : Fd) (hok : okF f = true) (r k l : Int) : ∀ n, n ≤ 100 → plotsX r k l (cellsTo f n) = plotsR f r k l n
  | 0, _ => rfl
  | n + 1, hn => by
    have ih := plotsX_to f hok r k l n (by omega)
    cases hc : isCell f n with
    | true =>
      rw [cellsTo_yes hc, plotsX_snoc, ih]; rfl
    | false =>
      rw [cellsTo_no hc, ih, plotsR_no (by rw [okF_outer hok (by omega) hc]; decide)]
theorem plotsX_len {f : Fd} (r k l : Int) (cs : List (CellOf f)) : (plotsX r k l cs).length ≤ cs.length := by
  have h : ∀ (m : Nat) (ds : List (CellOf f)), ds.length = m → (plotsX r k l ds).length ≤ ds.length := by
    intro m
    induction m with
    | zero => intro ds hd; rw [List.length_eq_zero_iff.1 hd]; exact Nat.le_refl _
    | succ m ih =>
      intro ds hd
      rcases List.eq_nil_or_concat ds with rfl | ⟨d, x, rfl⟩
      · exact Nat.le_refl _
      · rw [List.concat_eq_append] at *
        have := ih d (by simpa using hd)
        rw [plotsX_snoc, List.length_append]
        split
        · rw [List.length_append]; simp; exact this
        · simp; omega
  exact h _ cs rfl
def ripOk (r k l : Int) : Bool := inB r 0 20 && inB k 0 20 && inB l 0 1000
def plCode (f : Fd) (r k l : Int) : Int := if okF f then (if ripOk r k l then (if 6 < (plotsR f r k l 100).length then 3 else 0) else 2) else 1
def plN (f : Fd) (r k l : Int) : Nat := if plCode f r k l = 0 then (plotsR f r k l 100).length else 0
theorem plN_le (f : Fd) (r k l : Int) : plN f r k l ≤ 2 ^ 40 := by
  have := plotsR_le f r k l 100
  unfold plN; split <;> omega
def PlP (f : Fd) (r k l : Int) (w : World) (e : Ending) (w' : World) : Prop :=
  ∃ p c', e = .returned (.tuple #[.slice p (plN f r k l) c', .int .i64 (plCode f r k l)]) ∧ SV ksPlot w.heap.size w'.heap.size w' p (plN f r k l) (rowsF (plotsR f r k l 100)) ∧ SW ksPlot 58 w.heap.size w'.heap.size w' p (plN f r k l) ∧ Below w.heap.size w w'
theorem plP_bad {f : Fd} {r k l : Int} {w w' : World} {c0 : Int} (hc : plCode f r k l = c0) (hne : c0 ≠ 0) (p : Option Addr) (c : Nat) (hb : Below w.heap.size w w') : PlP f r k l w (.returned (.tuple #[.slice p 0 c, .int .i64 c0])) w' := by
  have hN : plN f r k l = 0 := by unfold plN; rw [hc, if_neg hne]
  exact ⟨p, c, by rw [hN, hc], .inl hN, .inl hN, hb⟩
theorem plP_ok {f : Fd} {r k l : Int} {w w' : World} {v : Value} {R : List (Nat → Int)} (hc : plCode f r k l = 0) (hR : plotsR f r k l 100 = R) (lo : Nat) (hlo : w.heap.size ≤ lo) (ho : w'.ownsRow lo 58 4 v R.length (scells ksPlot R.length (rowsF R)).toList) (hb : Below w.heap.size w w') : PlP f r k l w (.returned (.tuple #[v, .int .i64 0])) w' := by
  have hN : plN f r k l = R.length := by unfold plN; rw [hc, if_pos rfl, hR]
  obtain ⟨p, c, rfl, h⟩ := Sown (ks := ksPlot) ho
  have h' := h.weak hlo
  exact ⟨p, c, by rw [hN, hc], by rw [hN, hR]; exact h'.inS, by rw [hN]; exact h'.sw, hb⟩
theorem Pinfo' : (Tryd.prog.info? 58).map (fun i => (i.zero, i.size, i.bytes)) = some (some (.agg #[.int .i16 0, .int .i16 0, .int .i16 0, .int .i16 0]), 4, 8) := by kernel_rfl
set_option maxRecDepth 100000 in
set_option maxHeartbeats 8000000 in
theorem specPlotsOf (f : Fd) (hf : f.Wf) (r k l : Int) (w : World) :
    Calls Tryd.prog 7 #[.agg (fcells f), .int .i64 r, .int .i64 k, .int .i64 l] w (PlP f r k l w) := by
  cases hok : okF f with
  | false =>
    have hc : plCode f r k l = 1 := by unfold plCode; rw [hok]; rfl
    have HC := Lib.hid hc
    have HOK := Lib.hid hok
    clear hc hok
    go_enter Tryd.func7, Tryd.ntmps7
    go_upto_region 1 with (fail)
    obtain ⟨W, hW, M⟩ := open1 w (fcells f) 31
    rw [hW]; clear hW
    go_wp2_with (go_at_call 26; refine (l01Ok_any f hf w.heap.size _ ((M.alloc #[] 58).at 0 rfl)).mono ?_; rintro e w9 ⟨rfl, rfl⟩; rw [HOK.out])
    go_ret2
    exact plP_bad HC.out (by decide) _ _ (M.alloc #[] 58).below
  | true =>
  have HOK := Lib.hid hok
  cases h1 : inB r 0 20 with
  | false =>
    have HC : Hid (plCode f r k l = 2) := Lib.hid (by unfold plCode ripOk; rw [hok, h1]; rfl)
    have H1 := Lib.hid h1
    have ok1 : True := trivial
    clear hok h1
    go_enter Tryd.func7, Tryd.ntmps7
    go_upto_region 1 with (fail)
    obtain ⟨W, hW, M⟩ := open1 w (fcells f) 31
    rw [hW]; clear hW
    go_wp2_with (first
      | (go_at_call 26; refine (l01Ok_any f hf w.heap.size _ ((M.alloc #[] 58).at 0 rfl)).mono ?_; rintro e w9 ⟨rfl, rfl⟩; rw [HOK.out])
      | (clear ok1; go_at_call 27; refine (l00In_any _ _ _ _).mono ?_; rintro e w9 ⟨rfl, rfl⟩; rw [H1.out]))
    go_ret2
    exact plP_bad HC.out (by decide) _ _ (M.alloc #[] 58).below
  | true =>
  have H1 := Lib.hid h1
  cases h2 : inB k 0 20 with
  | false =>
    have HC : Hid (plCode f r k l = 2) := Lib.hid (by unfold plCode ripOk; rw [hok, h1, h2]; rfl)
    have H2 := Lib.hid h2
    have ok1 : True := trivial
    have ok2 : True := trivial
    clear hok h1 h2
    go_enter Tryd.func7, Tryd.ntmps7
    go_upto_region 1 with (fail)
    obtain ⟨W, hW, M⟩ := open1 w (fcells f) 31
    rw [hW]; clear hW
    go_wp2_with (first
      | (go_at_call 26; refine (l01Ok_any f hf w.heap.size _ ((M.alloc #[] 58).at 0 rfl)).mono ?_; rintro e w9 ⟨rfl, rfl⟩; rw [HOK.out])
      | (clear ok1; go_at_call 27; refine (l00In_any _ _ _ _).mono ?_; rintro e w9 ⟨rfl, rfl⟩; rw [H1.out])
      | (clear ok2; go_at_call 27; refine (l00In_any _ _ _ _).mono ?_; rintro e w9 ⟨rfl, rfl⟩; rw [H2.out]))
    go_ret2
    exact plP_bad HC.out (by decide) _ _ (M.alloc #[] 58).below
  | true =>
  have H2 := Lib.hid h2
  cases h3 : inB l 0 1000 with
  | false =>
    have HC : Hid (plCode f r k l = 2) := Lib.hid (by unfold plCode ripOk; rw [hok, h1, h2, h3]; rfl)
    have H3 := Lib.hid h3
    have ok1 : True := trivial
    have ok2 : True := trivial
    clear hok h1 h2 h3
    go_enter Tryd.func7, Tryd.ntmps7
    go_upto_region 1 with (fail)
    obtain ⟨W, hW, M⟩ := open1 w (fcells f) 31
    rw [hW]; clear hW
    go_wp2_with (first
      | (go_at_call 26; refine (l01Ok_any f hf w.heap.size _ ((M.alloc #[] 58).at 0 rfl)).mono ?_; rintro e w9 ⟨rfl, rfl⟩; rw [HOK.out])
      | (clear ok1; go_at_call 27; refine (l00In_any _ _ _ _).mono ?_; rintro e w9 ⟨rfl, rfl⟩; rw [H1.out])
      | (clear ok2; go_at_call 27; refine (l00In_any _ _ _ _).mono ?_; rintro e w9 ⟨rfl, rfl⟩; rw [H2.out])
      | (go_at_call 28; refine (l01Seeds_any _ _).mono ?_; rintro e w9 ⟨rfl, rfl⟩; rw [H3.out]))
    go_ret2
    exact plP_bad HC.out (by decide) _ _ (M.alloc #[] 58).below
  | true =>
    have H3 := Lib.hid h3
    have ok1 : True := trivial
    have ok2 : True := trivial
    have hr := inB_iff.1 h1
    have hk := inB_iff.1 h2
    have hl := inB_iff.1 h3
    have HCC : Hid (plCode f r k l = if 6 < (plotsR f r k l 100).length then 3 else 0) := Lib.hid (by unfold plCode ripOk; rw [hok, h1, h2, h3]; rfl)
    have HS := Lib.hid (fun (i : Nat) (hi : i < 100) => okF_seeds hok hi)
    have hwr : IntKind.i16.wrap r = r := IntWalk.i16_in _ (by omega)
    have hwk : IntKind.i16.wrap k = k := IntWalk.i16_in _ (by omega)
    have hwl : IntKind.i16.wrap l = l := IntWalk.i16_in _ (by omega)
    obtain ⟨i0, hi, hz0, hz1, hz2⟩ := info_parts Pinfo'
    clear hok h1 h2 h3 hr hk hl
    go_enter Tryd.func7, Tryd.ntmps7
    go_upto_region 1 with (fail)
    obtain ⟨W, hW, M⟩ := open1 w (fcells f) 31
    rw [hW]; clear hW
    have hs0 := M.below.size
    go_wp2_with (first
      | (go_at_call 26; refine (l01Ok_any f hf w.heap.size _ ((M.alloc #[] 58).at 0 rfl)).mono ?_; rintro e w9 ⟨rfl, rfl⟩; rw [HOK.out])
      | (clear ok1; go_at_call 27; refine (l00In_any _ _ _ _).mono ?_; rintro e w9 ⟨rfl, rfl⟩; rw [H1.out])
      | (clear ok2; go_at_call 27; refine (l00In_any _ _ _ _).mono ?_; rintro e w9 ⟨rfl, rfl⟩; rw [H2.out])
      | (go_at_call 28; refine (l01Seeds_any _ _).mono ?_; rintro e w9 ⟨rfl, rfl⟩; rw [H3.out]))
    have HR0 : Hid ((W.alloc (.cells #[] 58)).ownsRow W.heap.size 58 4 (.slice (some ⟨W.heap.size, 0, none⟩) 0 0) 0 []) := Lib.hid (World.ownsRow_made W #[] 0 (Nat.le_refl _) (Nat.zero_le _) (by simp))
    have C0 := Lib.hid ((Below.refl W.heap.size W).alloc (Nat.le_refl _) (.cells #[] 58))
    have HB := Lib.hid (M.at 0 rfl)
    have HM := Lib.hid M.below
    clear M
    go_loopw [10, 11] (fun v i wr => ∃ q : Nat, q ≤ 100 ∧ i = .int .i64 q ∧ Hid (wr.ownsRow W.heap.size 58 4 v (plotsR f r k l q).length (scells ksPlot (plotsR f r k l q).length (rowsF (plotsR f r k l q))).toList) ∧ Hid (Below W.heap.size W wr)) (fun _ i _ => 100 - (intOf i).toNat)
    case atStart => exact ⟨0, by omega, rfl, HR0, C0⟩
    case round =>
      clear HR0 C0
      obtain ⟨q, hq, rfl, hO, hB2⟩ := hrel
      by_cases hlt : q < 100
      · have hlen := plotsR_le f r k l q
        have c0 := (HB.out.later hB2.out).cell (fcells_S f q hlt)
        have hq1 : (q : Int) < 100 := by omega
        obtain ⟨s1, s2⟩ := HS.out q hlt
        by_cases hS : 0 < f.S q
        · have e := Lib.hid (plotsR_yes (r := r) (k := k) (l := l) hS)
          have hrc : Hid (rcells ksPlot (plotR f r k l q) = [.int .i16 (f.S q), .int .i16 r, .int .i16 k, .int .i16 l]) := Lib.hid rfl
          have hbs := hB2.out.size
          obtain ⟨R, hR⟩ : ∃ R, plotsR f r k l q = R := ⟨_, rfl⟩
          rw [hR] at hO e hlen
          clear hR
          go_wp2_with (at_builtin; refine wpList_append_own _ rfl _ _ 28 rfl W.heap.size 58 i0 (.agg #[.int .i16 0, .int .i16 0, .int .i16 0, .int .i16 0]) 4 8 Tryd.underlying28 hi hz0 hz1 hz2 rfl (by decide) _ _ _ rfl (hO.out.alloc _) ⟨wr.heap.size, 0, none⟩ 1 1 [.int .i16 (f.S q), .int .i16 r, .int .i16 k, .int .i16 l] rfl rfl ?c1 ?c2 ?c3 ?c4 ?c5 ?_)
          case c1 => exact row_new wr [.int .i16 (f.S q), .int .i16 r, .int .i16 k, .int .i16 l] 58
          case c2 => intro u hu; simp at hu; rcases hu with rfl | rfl | rfl | rfl <;> rfl
          case c3 => unfold maxLen; omega
          case c4 => omega
          case c5 => simp; omega
          intro v2 w2 ho2 hg2 _
          have C2 := Lib.hid (below_own (hB2.out.alloc hB2.out.size (.cells #[.int .i16 (f.S q), .int .i16 r, .int .i16 k, .int .i16 l] 58)) (by simp; omega) (hO.out.alloc _) hg2)
          have O2 : Hid (w2.ownsRow W.heap.size 58 4 v2 (plotsR f r k l (q + 1)).length (scells ksPlot (plotsR f r k l (q + 1)).length (rowsF (plotsR f r k l (q + 1)))).toList) := Lib.hid (by rw [e.out, scells_snoc, hrc.out, List.length_append]; exact ho2)
          clear ho2 hg2 c0
          go_wp2_with fail
          go_roundw
          case rel => exact ⟨q + 1, by omega, by go_num, O2, C2⟩
          case measure => simp [intOf]; omega
        · have e := Lib.hid (plotsR_no (r := r) (k := k) (l := l) hS)
          go_wp2_with fail
          go_roundw
          case rel => exact ⟨q + 1, by omega, by go_num, by rw [e.out]; exact hO, hB2⟩
          case measure => simp [intOf]; omega
      · obtain rfl : q = 100 := by omega
        obtain ⟨R, hR⟩ : ∃ R, plotsR f r k l 100 = R := ⟨_, rfl⟩
        have HR := Lib.hid hR
        have hlen := plotsR_le f r k l 100
        rw [hR] at hO hlen
        have HC : Hid (plCode f r k l = if 6 < R.length then 3 else 0) := Lib.hid (by rw [← hR]; exact HCC.out)
        clear hR HCC
        obtain ⟨p9, c9, rfl⟩ := own_out hO.out
        by_cases h6 : 6 < R.length
        · have HC3 : Hid (plCode f r k l = 3) := Lib.hid (by rw [HC.out, if_pos h6])
          go_wp2_with fail
          go_ret2
          exact plP_bad HC3.out (by decide) _ _ ((HM.out.trans (hB2.out.mono HM.out.size)).alloc (by have := HM.out.size; have := hB2.out.size; omega) _)
        · have HC3 : Hid (plCode f r k l = 0) := Lib.hid (by rw [HC.out, if_neg h6])
          go_wp2_with fail
          go_ret2
          exact plP_ok HC3.out HR.out W.heap.size hs0 hO.out (HM.out.trans (hB2.out.mono HM.out.size))
end Go.Proofs.YtddbpbibjiahgaaDoor
