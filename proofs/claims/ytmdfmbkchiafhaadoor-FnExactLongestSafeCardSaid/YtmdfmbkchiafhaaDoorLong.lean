/-
  LongestSafe: the model's and the program's.
-/
import Derived.Test.YtmdfmbkchiafhaaDoorDays
import Derived.Test.YtmdfmbkchiafhaaDoorTgtS
import Derived.Test.YtmdfmbkchiafhaaDoorRegIn
import Derived.Test.YtmdfmbkchiafhaaDoorLstN
namespace Go.Proofs.YtmdfmbkchiafhaaDoor
open Go Go.RowKit Go.Shelf
attribute [local go_sem] Oper.semAt_some

/-- The least of 1000 and what D says of the first k of a list. -/
def lsT (D : Int → Int) (l : List Int) : Nat → Int
  | 0 => 1000
  | k + 1 => min (lsT D l k) (D (l.getD k 0))
def lsX {X : Type} (D : Int → Int) (val : X → Nat) (l : List X) : Int := l.foldl (fun s c => min s (D (val c : Int))) 1000
theorem lsX_snoc {X : Type} (D : Int → Int) (val : X → Nat) (l : List X) (c : X) : lsX D val (l ++ [c]) = min (lsX D val l) (D (val c : Int)) := by simp [lsX, List.foldl_append]
theorem lsX_len {X : Type} (D : Int → Int) (val : X → Nat) (l : List X) : ∀ k, k ≤ l.length → lsT D (l.map (fun x => (val x : Int))) k = lsX D val (l.take k)
  | 0, _ => rfl
  | k + 1, hk => by
    have ih := lsX_len D val l k (by omega)
    have hlt : k < l.length := by omega
    rw [List.take_add_one, List.getElem?_eq_getElem hlt, Option.toList_some, lsX_snoc, ← ih, lsT]
    congr 1
    simp [List.getD, List.getElem?_map, List.getElem?_eq_getElem hlt]
theorem ls_nums (D : Int → Int) (g : Nat → Int) : lsX D (fun x : NumOf g => x.1) (numsTo g 100) = lsT D (hlist g 100) (hlist g 100).length := by
  have h := lsX_len D (fun x : NumOf g => x.1) (numsTo g 100) (numsTo g 100).length (Nat.le_refl _)
  rw [List.take_length] at h
  rw [← nums_hlist g 100 (Nat.le_refl _), List.length_map]
  exact h.symm
theorem dsFrom_le (F : Nat → Nat → Int) (c : Int) (n : Nat) (x : Int) : ∀ m d, dsFrom F c n x m d ≤ d + m
  | 0, d => Nat.le_refl _
  | m + 1, d => by
    have := dsFrom_le F c n x m (d + 1)
    unfold dsFrom; split <;> omega
theorem dsAll_le (F : Nat → Nat → Int) (c : Int) (n : Nat) (x : Int) : dsAll F c n x ≤ 30 := by
  have := dsFrom_le F c n x 30 0
  unfold dsAll; omega
/-- How long a cell is safe. -/
def dsD (F : Nat → Nat → Int) (n : Nat) (x : Int) (c : Int) : Int := (dsAll F c n x : Nat)
theorem dsD_in (F : Nat → Nat → Int) (n : Nat) (x c : Int) : 0 ≤ dsD F n x c ∧ dsD F n x c ≤ 30 := by
  have := dsAll_le F c n x
  unfold dsD; omega
theorem lsT_in (D : Int → Int) (hD : ∀ c, 0 ≤ D c ∧ D c ≤ 30) (l : List Int) : ∀ k, 0 ≤ lsT D l k ∧ lsT D l k ≤ 1000
  | 0 => by show (0 : Int) ≤ 1000 ∧ (1000 : Int) ≤ 1000; decide
  | k + 1 => by
    have := lsT_in D hD l k
    have := hD (l.getD k 0)
    unfold lsT; omega
theorem lsX_in {X : Type} (D : Int → Int) (hD : ∀ c, 0 ≤ D c ∧ D c ≤ 30) (val : X → Nat) (l : List X) : 0 ≤ lsX D val l ∧ lsX D val l ≤ 1000 := by
  have h := lsT_in D hD (l.map (fun x => (val x : Int))) l.length
  rw [lsX_len D val l _ (Nat.le_refl _), List.take_length] at h
  exact h
def longVal (f : Fd) (n : Nat) (F : Nat → Nat → Int) (t : Nat → Int) (x : Int) : Int :=
  if askCode f n F (inB x 1 1000) = 0 then lsT (dsD F n x) (hlist (tgS f t) 100) (hlist (tgS f t) 100).length else 0
theorem hlistG_in {g : Nat → Int} {i : Nat} (hi : i < (hlist g 100).length) : 0 ≤ (hlist g 100).getD i 0 ∧ (hlist g 100).getD i 0 ≤ 99 := by
  have hm : (hlist g 100).getD i 0 ∈ hlist g 100 := by
    simp [List.getD, List.getElem?_eq_getElem hi]
  simp only [hlist, List.mem_map, List.mem_filter, List.mem_range] at hm
  obtain ⟨c, ⟨h1, _⟩, h2⟩ := hm
  rw [show (hlist g 100).getD i 0 = (c : Int) from h2.symm]
  omega
set_option maxRecDepth 100000 in
set_option maxHeartbeats 8000000 in
theorem specLongestSafe (f : Fd) (hf : f.Wf) (n : Nat) (hn : n ≤ 2 ^ 40) (F : Nat → Nat → Int) (hF : WfS ksScarecrow n F) (t : Nat → Int) (x : Int) (b cap : Nat) (w : World) (I : InS w b 0 n ksScarecrow F) :
    Calls Tryd.prog 10 #[.agg (fcells f), .slice (some ⟨b, 0, none⟩) n cap, .agg (acells .u64 2 t), .int .i64 x] w fun e w' => e = .returned (.tuple #[.int .i64 (longVal f n F t x), .int .i64 (askCode f n F (inB x 1 1000))]) ∧ Below w.heap.size w w' := by
  have HI := Lib.hid I
  clear I
  obtain ⟨fine, hfine⟩ : ∃ fine, inB x 1 1000 = fine := ⟨_, rfl⟩
  have hp9 := Lib.hid hfine
  unfold longVal
  rw [hfine]
  have bad : ∀ k : Int, k ≠ 0 → askCode f n F fine = k → Calls Tryd.prog 10 #[.agg (fcells f), .slice (some ⟨b, 0, none⟩) n cap, .agg (acells .u64 2 t), .int .i64 x] w fun e w' => e = .returned (.tuple #[.int .i64 0, .int .i64 k]) ∧ Below w.heap.size w w' := by
    intro k hk0 hk
    have HC := Lib.hid hk
    have hkb : (k != 0) = true := by simpa using hk0
    clear hk hk0 hfine
    go_enter Tryd.func10, Tryd.ntmps10
    go_upto_region 1 with (fail)
    obtain ⟨W, hW, M⟩ := open2 w (fcells f) 34 (acells .u64 2 t) 38
    rw [hW]; clear hW
    go_wp2_with (first
      | (go_at_call 37; refine (l03Power_any x _).mono ?_; rintro e w1 ⟨rfl, rfl⟩; rw [hp9.out])
      | (go_at_call 36; refine (l03Asked_any f hf n hn F hF fine w.heap.size b cap _ (M.at 0 rfl) (HI.out.later M.below)).mono ?_; rintro e W2 ⟨rfl, hb⟩; rw [HC.out]; have M2 := M.call hb; clear M hb))
    go_ret2
    exact ⟨rfl, M2.below⟩
  rcases ask_cases f n F fine with ⟨hc0, hs, hp⟩ | ⟨hc0, hs⟩ | ⟨hc0, hp⟩
  · subst hp
    rw [hc0, if_pos rfl]
    have HC := Lib.hid hc0
    have HSH := Lib.hid (okS_field hs).2.1
    have HWF := Lib.hid (fun i (hi : i < n) => wfT_row hF hi)
    have hpp := Lib.hid (inB_iff.1 hfine)
    obtain ⟨L, hL⟩ : ∃ L, hlist (tgS f t) 100 = L := ⟨_, rfl⟩
    have HL := Lib.hid hL
    have hLin : ∀ i, i < L.length → 0 ≤ L.getD i 0 ∧ L.getD i 0 ≤ 99 := by subst hL; exact fun i hi => hlistG_in hi
    have hLle : L.length ≤ 100 := by subst hL; exact hlist_le _ _
    have HLI := Lib.hid hLin
    obtain ⟨D, hD⟩ : ∃ D, dsD F n x = D := ⟨_, rfl⟩
    have HD := Lib.hid hD
    have HDI := Lib.hid (fun c => by rw [← hD]; exact dsD_in F n x c : ∀ c, 0 ≤ D c ∧ D c ≤ 30)
    rw [hL, hD]
    clear bad hc0 hs hfine hL hLin hD
    go_enter Tryd.func10, Tryd.ntmps10
    go_upto_region 1 with (fail)
    obtain ⟨W, hW, M⟩ := open2 w (fcells f) 34 (acells .u64 2 t) 38
    rw [hW]; clear hW
    go_wp2_with (first
      | (go_at_call 37; refine (l03Power_any x _).mono ?_; rintro e w1 ⟨rfl, rfl⟩; rw [hp9.out])
      | (go_at_call 36; refine (l03Asked_any f hf n hn F hF true w.heap.size b cap _ (M.at 0 rfl) (HI.out.later M.below)).mono ?_; rintro e W2 ⟨rfl, hb⟩; rw [HC.out]; have M2 := M.call hb; clear M hb)
      | (go_at_call 38; refine (l03Targets_any f hf t w.heap.size (w.heap.size + 1) _ (M2.at 0 rfl) (M2.at 1 rfl)).mono ?_; rintro e W3 ⟨v, rfl, ho, hb⟩; rw [HL.out] at ho; have M3 := M2.call hb; clear M2 hb; obtain ⟨q, c9, rfl, V, _⟩ := Nown rfl ho; have J := Lib.hid V.j; have HM := Lib.hid M3.below; clear M3 ho V))
    go_loopw [11, 13] (fun v i wr => ∃ k : Nat, k ≤ L.length ∧ v = .int .i64 (lsT D L k) ∧ i = .int .i64 k ∧ Hid (Below W3.heap.size W3 wr)) (fun _ i _ => L.length - (intOf i).toNat)
    case atStart => exact ⟨0, by omega, rfl, rfl, Lib.hid (Below.refl _ _)⟩
    case round =>
      obtain ⟨k, hk, rfl, rfl, hb⟩ := hrel
      have hbw : Hid (Below w.heap.size w wr) := Lib.hid (HM.out.trans (hb.out.mono HM.out.size))
      by_cases hlt : k < L.length
      · rcases J.out with hz | ⟨lb, lo, rfl, J3⟩
        · omega
        · have c0 : wr.cell? ⟨lb, lo + k, none⟩ = some (.int .i64 (L.getD k 0)) := (J3.later hb.out) k hlt
          have hxin := HLI.out k hlt
          obtain ⟨y, hy⟩ : ∃ y, L.getD k 0 = y := ⟨_, rfl⟩
          have HY := Lib.hid hy
          rw [hy] at c0 hxin
          have hst : Hid (min (lsT D L k) (D y) = lsT D L (k + 1)) := Lib.hid (by rw [lsT, hy])
          have HDY : Hid (((dsAll F y n x : Nat) : Int) = D y) := Lib.hid (by rw [← HD.out]; rfl)
          obtain ⟨u, hu⟩ : ∃ u, lsT D L k = u := ⟨_, rfl⟩
          rw [hu] at hst ⊢
          clear hy hu
          go_wp2_with (first
            | (go_at_call 40; refine (l03Days_any n hn F HWF.out HSH.out y hxin x hpp.out b cap _ (HI.out.later hbw.out)).mono ?_; rintro e W5 ⟨rfl, hb5⟩; rw [HDY.out]; have hB5 := hb.out.trans (hb5.mono hb.out.size); clear hb5 c0)
            | (go_at_call 39; refine (l00MinA u (D y) _).mono ?_; rintro e W6 ⟨rfl, rfl⟩; rw [hst.out]))
          go_roundw
          case rel => exact ⟨k + 1, by omega, rfl, by go_num, Lib.hid hB5⟩
          case measure => simp [intOf]; omega
      · obtain rfl : k = L.length := by omega
        go_wp2_with fail
        go_ret2
        exact ⟨rfl, hbw.out⟩
  · rw [hc0, if_neg (by decide)]; exact bad 1 (by decide) hc0
  · rw [hc0, if_neg (by decide)]; exact bad 2 (by decide) hc0
theorem load_scares (b off d n cap : Nat) (w : World) (c : w.cell? ⟨b, off, none⟩ = some (.slice (some ⟨d, 0, none⟩) n cap)) : (Instr.loadAt 36 (.pointer (some ⟨b, off, none⟩))).run Tryd.prog w = .ok (.slice (some ⟨d, 0, none⟩) n cap) w := by
  simp [go_sem, c]
theorem load_days (b off : Nat) (n : Int) (w : World) (c : w.cell? ⟨b, off, none⟩ = some (.int .i64 n)) : (Instr.loadAt 2 (.pointer (some ⟨b, off, none⟩))).run Tryd.prog w = .ok (.int .i64 n) w := by
  simp [go_sem, c]
set_option maxRecDepth 100000 in
set_option maxHeartbeats 8000000 in
theorem implLongestSafe (f : Fd) (hf : f.Wf) (n : Nat) (hn : n ≤ 2 ^ 40) (F : Nat → Nat → Int) (hF : WfS ksScarecrow n F) (t : Nat → Int) (x : Int) (b cap : Nat) (hcap : n ≤ cap) (A : Nat → Addr) (w : World) (I : InS w b 0 n ksScarecrow F) (S0 : Sents w A) :
    Calls Tryd.prog 14 #[.agg (fcells f), .slice (some ⟨b, 0, none⟩) n cap, .agg (acells .u64 2 t), .int .i64 x] w fun e w' => e = .returned (.tuple #[.int .i64 (longVal f n F t x), .int .i64 (askCode f n F (inB x 1 1000))]) ∧ Below w.heap.size w w' := by
  have HI := Lib.hid I
  have S : Hid (Sents w A) := Lib.hid S0
  clear I S0
  have hif := isIfaceErr
  unfold longVal
  have open4 : ∃ W, (((w.alloc (.cells (fcells f) 34)).alloc (.cells #[.slice (some ⟨b, 0, none⟩) n cap] 36)).alloc (.cells (acells .u64 2 t) 38)).alloc (.cells #[.int .i64 x] 2) = W ∧ Mem w W [⟨w.heap.size, fcells f, 34⟩, ⟨w.heap.size + 1, #[.slice (some ⟨b, 0, none⟩) n cap], 36⟩, ⟨w.heap.size + 1 + 1, acells .u64 2 t, 38⟩, ⟨w.heap.size + 1 + 1 + 1, #[.int .i64 x], 2⟩] := by
    have h := ((((Mem.nil w).alloc (fcells f) 34).alloc #[.slice (some ⟨b, 0, none⟩) n cap] 36).alloc (acells .u64 2 t) 38).alloc #[.int .i64 x] 2
    simp only [World.size_alloc, List.nil_append, List.cons_append] at h
    exact ⟨_, rfl, h⟩
  have HO := Lib.hid open4
  clear open4
  have bad : ∀ k : Nat, 1 ≤ k → k ≤ 8 → askErr A (askCode f n F (inB x 1 1000)) = errVal (A k) → Calls Tryd.prog 14 #[.agg (fcells f), .slice (some ⟨b, 0, none⟩) n cap, .agg (acells .u64 2 t), .int .i64 x] w fun e w' => e = .returned (.tuple #[.int .i64 0, .int .i64 k]) ∧ Below w.heap.size w w' := by
    intro k h1 h8 hcode
    have hc := Lib.hid hcode
    clear hcode
    go_enter Tryd.func14, Tryd.ntmps14
    go_upto_region 1 with (fail)
    obtain ⟨W, hW, M⟩ := HO.out
    rw [hW]; clear hW
    have c1 := (M.at 1 rfl).cell (i := 0) rfl
    have c3 := (M.at 3 rfl).cell (i := 0) rfl
    go_wp2_with (first
      | (refine wpList_load_part rfl 34 _ rfl w.heap.size 0 rfl (fcells f) _ (M.at 0 rfl).whole Tryd.underlying34 rfl (by rw [fcells_size]; exact sizeFd) ?_)
      | (go_at_call 44; refine (checkSafety_any f hf n hn F hF x b cap hcap A _ (HI.out.later M.below) (S.out.later M.below)).mono ?_; rintro e W2 ⟨rfl, hb⟩; rw [hc.out]; have M2 := M.call hb; clear M hb)
      | (go_at_call 45; refine (codeOf_err A k h1 h8 _ (S.out.later M2.below)).mono ?_; rintro e W3 ⟨rfl, rfl⟩))
    go_ret2
    exact ⟨rfl, M2.below⟩
  rcases ask_cases f n F (inB x 1 1000) with ⟨hc0, hs, hp⟩ | ⟨hc0, hs⟩ | ⟨hc0, hp⟩
  · have hok := (okS_field hs).1
    have HSH := Lib.hid (okS_field hs).2.1
    have HWF := Lib.hid (fun i (hi : i < n) => wfT_row hF hi)
    have hc := Lib.hid (show askErr A (askCode f n F (inB x 1 1000)) = .nilIface by rw [hc0]; rfl)
    have hpp := Lib.hid (inB_iff.1 hp)
    rw [hc0, if_pos rfl]
    clear bad hc0 hs hp
    obtain ⟨D, hD⟩ : ∃ D, dsD F n x = D := ⟨_, rfl⟩
    have HD := Lib.hid hD
    have HDI := Lib.hid (fun c => by rw [← hD]; exact dsD_in F n x c : ∀ c, 0 ≤ D c ∧ D c ≤ 30)
    rw [hD]
    clear hD
    obtain ⟨G, hG⟩ : ∃ G, tgS f t = G := ⟨_, rfl⟩
    rw [hG]
    have HG := Lib.hid hG
    clear hG
    have hLS := Lib.hid (ls_nums D G)
    have hdep : Fence.wide.depth.isSome = false := rfl
    have hfn : ∀ k, Fence.wide.fn k := fun _ => trivial
    refine (callsIn_wide (n := 3)).1 ?_
    refine callsIn_of_wp_marks Tryd.func14 rfl trivial ?_ rfl
    simp only [Tryd.ntmps14, List.size_toArray, List.length_cons, List.length_nil, Nat.reduceAdd, Nat.reduceSub, Array.replicate_succ, Array.replicate_zero, List.push_toArray, List.append_toArray, List.nil_append, List.cons_append]
    gi_upto_region 1 with (fail)
    obtain ⟨W, hW, M⟩ := HO.out
    rw [hW]; clear hW
    have c1 := (M.at 1 rfl).cell (i := 0) rfl
    have c3 := (M.at 3 rfl).cell (i := 0) rfl
    gi_upto_region 5 with (first
      | (refine loadIn hfn rfl 34 _ rfl w.heap.size 0 rfl (fcells f) _ (M.at 0 rfl).whole Tryd.underlying34 rfl (by rw [fcells_size]; exact sizeFd) ?_)
      | (gi_at_call 44; refine (callsIn_wide.2 (checkSafety_any f hf n hn F hF x b cap hcap A _ (HI.out.later M.below) (S.out.later M.below))).mono ?_; rintro e W2 ⟨rfl, hb⟩; rw [hc.out]; have M2 := M.call hb; clear M hb c1 c3))
    obtain ⟨ob, hob⟩ : ∃ ob, ob = W2.heap.size := ⟨_, rfl⟩
    have M3 : Mem w (W2.alloc (Obj.cells #[.int .i64 1000] 2)) [⟨w.heap.size, fcells f, 34⟩, ⟨w.heap.size + 1, #[.slice (some ⟨b, 0, none⟩) n cap], 36⟩, ⟨w.heap.size + 1 + 1, acells .u64 2 t, 38⟩, ⟨w.heap.size + 1 + 1 + 1, #[.int .i64 x], 2⟩, ⟨ob, #[.int .i64 1000], 2⟩] := by rw [hob]; exact M2.alloc #[.int .i64 1000] 2
    generalize W2.alloc _ = W3 at M3 ⊢
    rw [← hob]
    clear hob M2
    gi_wp2_with (first
      | (refine loadIn hfn rfl 34 _ rfl w.heap.size 0 rfl (fcells f) _ (M3.at 0 rfl).whole Tryd.underlying34 rfl (by rw [fcells_size]; exact sizeFd) ?_)
      | (refine loadIn hfn rfl 38 _ rfl (w.heap.size + 1 + 1) 0 rfl (acells .u64 2 t) _ (M3.at 2 rfl).whole Tryd.underlying38 rfl (by rw [acells_size]; exact sizeC) ?_)
      | (gi_at_call 47; refine (callsIn_wide.2 (soilIn_any f hf hok t _)).mono ?_; rintro e W4 ⟨rfl, hb⟩; rw [HG.out]; have M4 := M3.call hb; clear M3 hb)
      | (gi_at_call 46; refine (callsIn_wide.2 (numbersIn_any G _)).mono ?_; rintro e w' ⟨rfl, rfl⟩))
    obtain ⟨bi, hbi⟩ : ∃ bi, bi = W4.heap.size := ⟨_, rfl⟩
    have M5 : Mem w (W4.alloc (Obj.cells (acells .u64 2 G) 38)) [⟨w.heap.size, fcells f, 34⟩, ⟨w.heap.size + 1, #[.slice (some ⟨b, 0, none⟩) n cap], 36⟩, ⟨w.heap.size + 1 + 1, acells .u64 2 t, 38⟩, ⟨w.heap.size + 1 + 1 + 1, #[.int .i64 x], 2⟩, ⟨ob, #[.int .i64 (lsX D (fun x : NumOf G => x.1) [])], 2⟩, ⟨bi, acells .u64 2 G, 38⟩] := by rw [hbi]; exact M4.alloc (acells .u64 2 G) 38
    generalize W4.alloc _ = W5 at M5 ⊢
    rw [← hbi]
    clear hbi M4
    have hsz : w.heap.size ≤ W5.heap.size := M5.below.size
    refine wpIn_rangeFunc_ownF rfl (by omega) (gf := 81) (lb := #[.pointer (some ⟨bi, 0, none⟩)]) rfl trivial (enters_of Tryd.func81 (by kernel_rfl) rfl)
      (nums_stops 2 bi G W5 (M5.at 5 rfl)) (fun h k => k.trans h)
      (fun W l o o' hl ho hc _ => World.putObj_heap_other (fun e => by
        have := (M5.at 5 rfl).lt
        omega))
      (Below.refl _ _) (fun _ => rfl)
      (fun pre W => Mem w W [⟨w.heap.size, fcells f, 34⟩, ⟨w.heap.size + 1, #[.slice (some ⟨b, 0, none⟩) n cap], 36⟩, ⟨w.heap.size + 1 + 1, acells .u64 2 t, 38⟩, ⟨w.heap.size + 1 + 1 + 1, #[.int .i64 x], 2⟩, ⟨ob, #[.int .i64 (lsX D (fun x : NumOf G => x.1) pre)], 2⟩, ⟨bi, acells .u64 2 G, 38⟩])
      (fun _ _ _ => False)
      (fun s A B row hs hg hr => hs.grown hsz hg hr)
      (fun c s A B row hs hg hr => hs)
      M5
      (fun x9 => { tmps := #[.agg (fcells f), .slice (some ⟨b, 0, none⟩) n cap, .agg (acells .u64 2 t), .int .i64 x, .pointer (some ⟨w.heap.size, 0, none⟩), .pointer (some ⟨w.heap.size + 1, 0, none⟩), .pointer (some ⟨w.heap.size + 1 + 1, 0, none⟩), .pointer (some ⟨w.heap.size + 1 + 1 + 1, 0, none⟩), .int .i64 0, .int .i64 0, .nilIface, .pointer (some ⟨ob, 0, none⟩), .int .i64 (x9.1 : Int), .agg (fcells f), .slice (some ⟨b, 0, none⟩) n cap, .int .i64 x, .nilIface, .nilIface, .bool false, undef, undef, .agg (fcells f), .agg (acells .u64 2 t), .agg (acells .u64 2 G), .func (.func 81) #[] #[.pointer (some ⟨bi, 0, none⟩)], .int .i64 (x9.1 : Int), undef, undef, undef, undef, undef, undef, undef], defers := [] }) ?assign ?body ?done ?stop
    case assign =>
      intro l x W K hK
      gi_wp2
      exact hK
    case body =>
      rintro l pre x9 W6 M6 _
      have hfn' : ∀ k, (Fence.wide.inRound l).fn k := fun _ => trivial
      have hdep' : (Fence.wide.inRound l).depth.isSome = false := rfl
      have hx := x9.2.1
      have hin : 0 ≤ (x9.1 : Int) ∧ (x9.1 : Int) ≤ 99 := ⟨by omega, by omega⟩
      have HDY : Hid (((dsAll F (x9.1 : Int) n x : Nat) : Int) = D (x9.1 : Int)) := Lib.hid (by rw [← HD.out]; rfl)
      have hsn := lsX_snoc D (fun x : NumOf G => x.1) pre x9
      obtain ⟨u, hu⟩ : ∃ u, lsX D (fun x : NumOf G => x.1) pre = u := ⟨_, rfl⟩
      rw [hu] at hsn M6
      obtain ⟨v9, hv9⟩ : ∃ v9, min u (D (x9.1 : Int)) = v9 := ⟨_, rfl⟩
      rw [hv9] at hsn
      have hmn : ∀ (ts : Array TypeId) (ty : TypeId) (W : World), (Builtin.min_ ts ty #[.int .i64 u, .int .i64 (D (x9.1 : Int))]).run Tryd.prog W = .ok (.int .i64 v9) W := fun ts ty W => by
        have e : (if D (x9.1 : Int) < u then D (x9.1 : Int) else u) = v9 := by rw [← hv9]; split <;> omega
        simp [Builtin.min_, Builtin.min2, e]
      have HSN := Lib.hid hsn
      clear hsn hu hv9
      gi_wp2
      refine wpIn_region_rel_tail 6 (DL [dV (.int .i64 u), dV (.slice (some ⟨b, 0, none⟩) n cap), dV (.int .i64 (x9.1 : Int)), dV (.int .i64 x), dV (.int .i64 (D (x9.1 : Int))), dV (.int .i64 v9)]) (fun w' => Mem w w' [⟨w.heap.size, fcells f, 34⟩, ⟨w.heap.size + 1, #[.slice (some ⟨b, 0, none⟩) n cap], 36⟩, ⟨w.heap.size + 1 + 1, acells .u64 2 t, 38⟩, ⟨w.heap.size + 1 + 1 + 1, #[.int .i64 x], 2⟩, ⟨ob, #[.int .i64 (u)], 2⟩, ⟨bi, acells .u64 2 G, 38⟩] ∧ Below W6.heap.size W6 w') hfn' hdep' (by kernel_rfl) (fun f' args w' R h => CallsIn.inRound l (callsIn_wide.2 h)) (by kernel_rfl) (by kernel_rfl) grows_memB
        (stays_DL (fun d hd => by
          simp only [List.mem_cons, List.mem_nil_iff, or_false] at hd
          rcases hd with rfl | rfl | rfl | rfl | rfl | rfl <;> exact stay_V)) ⟨M6.drew, (Below.refl _ _).drew⟩ ?_
      refine rel_cell 2 _ rfl (ob) (0) rfl (.int .i64 u) rfl rfl (fun w' c => load_days _ _ _ w' c) (fun w' hw' => (hw'.1.at 4 rfl).cell (i := 0) rfl) (fun _ => ?_)
      simp only [Act.put, List.setIfInBounds_toArray, List.set_cons_zero, List.set_cons_succ]
      refine rel_cell 36 _ rfl (w.heap.size + 1) (0) rfl (.slice (some ⟨b, 0, none⟩) n cap) rfl rfl (fun w' c => load_scares _ _ _ _ _ w' c) (fun w' hw' => (hw'.1.at 1 rfl).cell (i := 0) rfl) (fun _ => ?_)
      simp only [Act.put, List.setIfInBounds_toArray, List.set_cons_zero, List.set_cons_succ]
      refine rel_val _ rfl rfl (fun _ _ => rfl) (fun _ => ?_)
      simp only [Act.put, List.setIfInBounds_toArray, List.set_cons_zero, List.set_cons_succ]
      refine rel_cell 2 _ rfl (w.heap.size + 1 + 1 + 1) (0) rfl (.int .i64 x) rfl rfl (fun w' c => load_days _ _ _ w' c) (fun w' hw' => (hw'.1.at 3 rfl).cell (i := 0) rfl) (fun _ => ?_)
      simp only [Act.put, List.setIfInBounds_toArray, List.set_cons_zero, List.set_cons_succ]
      refine rel_call (.int .i64 (D (x9.1 : Int))) 48 #[.slice (some ⟨b, 0, none⟩) n cap, .int .i64 (x9.1 : Int), .int .i64 x] rfl rfl rfl rfl (enters_of Tryd.func48 (by kernel_rfl) rfl) (fun w' hw' => (daysSafe_any n hn F HWF.out HSH.out (x9.1 : Int) hin x hpp.out b cap w' (HI.out.later hw'.1.below)).mono (fun e w2 h => ⟨by rw [h.1, HDY.out], h.2⟩)) (fun _ => ?_)
      simp only [Act.put, List.setIfInBounds_toArray, List.set_cons_zero, List.set_cons_succ]
      refine rel_val (.int .i64 v9) rfl rfl (fun w' _ => by unfold execOp; simp [resolve, invoke, builtin, Act.eval, hmn, Result.andThen]) (fun _ => ?_)
      simp only [Act.put, List.setIfInBounds_toArray, List.set_cons_zero, List.set_cons_succ]
      refine rel_nil (fun w' inv => ?_)
      have M7 := inv.cls.1
      have B7 := inv.cls.2
      clear inv
      change wpListIn _ _ _ _ _ (_ :: []) _ _
      have e4 := (M7.at 4 rfl).free 0
      have c4 := (M7.at 4 rfl).cell (i := 0) rfl
      clear hmn
      gi_wp2
      have M8 := M7.set 4 0 (.int .i64 v9) rfl #[.int .i64 v9] rfl
      refine ⟨(KeepsOthers.of_below B7).trans (KeepsOthers.setCell _ _ _), M6.same M8 5 5 rfl rfl, ?_⟩
      show Mem w _ _
      rw [HSN.out]; exact M8
    case done =>
      rintro D9 xs W6 hD rfl M6 hK
      rw [hLS.out] at M6
      have d0 := (M6.at 4 rfl).cell (i := 0) rfl
      gi_wp2
      refine ⟨by simp, .inl ⟨_, _, rfl, run_takeDeferred hK, ?_⟩⟩
      have M7 := M6.taken (o' := .deferred none) (Nat.le_trans hsz hD) hK rfl
      refine ⟨_, ?_, rfl, M7.below⟩
      simp [results, Tryd.results14, go_sem]
    case stop =>
      rintro D9 c pre W6 hD _ h hK
      exact h.elim
  · rw [hc0, if_neg (by decide)]; exact bad 1 (by omega) (by omega) (by rw [hc0]; rfl)
  · rw [hc0, if_neg (by decide)]; exact bad 2 (by omega) (by omega) (by rw [hc0]; rfl)
end Go.Proofs.YtmdfmbkchiafhaaDoor
