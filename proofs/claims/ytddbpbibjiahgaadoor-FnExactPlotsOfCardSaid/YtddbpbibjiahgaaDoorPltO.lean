/-
  PlotsOf: the program's.
-/
import Derived.Test.YtddbpbibjiahgaaDoorPltS
import Derived.Test.YtddbpbibjiahgaaDoorCoreB
namespace Go.Proofs.YtddbpbibjiahgaaDoor
open Go Go.RowKit Go.Shelf
attribute [local go_sem] Oper.semAt_some

theorem open_plots (f : Fd) (r k l : Int) (w : World) : ∃ W, (((w.alloc (.cells (fcells f) 31)).alloc (.cells #[.int .i64 r] 2)).alloc (.cells #[.int .i64 k] 2)).alloc (.cells #[.int .i64 l] 2) = W ∧ Mem w W [⟨w.heap.size, fcells f, 31⟩, ⟨w.heap.size + 1, #[.int .i64 r], 2⟩, ⟨w.heap.size + 1 + 1, #[.int .i64 k], 2⟩, ⟨w.heap.size + 1 + 1 + 1, #[.int .i64 l], 2⟩] := by
  have h := ((((Mem.nil w).alloc (fcells f) 31).alloc #[.int .i64 r] 2).alloc #[.int .i64 k] 2).alloc #[.int .i64 l] 2
  simp only [World.size_alloc, List.nil_append, List.cons_append] at h
  exact ⟨_, rfl, h⟩
set_option maxRecDepth 100000 in
set_option maxHeartbeats 8000000 in
theorem implPlotsOf (f : Fd) (hf : f.Wf) (r : Int) (_hr0 : -9223372036854775808 ≤ r ∧ r ≤ 9223372036854775807) (k : Int) (_hk0 : -9223372036854775808 ≤ k ∧ k ≤ 9223372036854775807) (l : Int) (_hl0 : -9223372036854775808 ≤ l ∧ l ≤ 9223372036854775807) (A : Nat → Addr) (w : World) (S0 : Sents w A) :
    Calls Tryd.prog 9 #[.agg (fcells f), .int .i64 r, .int .i64 k, .int .i64 l] w (PlP f r k l w) := by
  have S : Hid (Sents w A) := Lib.hid S0
  clear S0
  have hif := isIfaceErr
  cases hok : okF f with
  | false =>
    have HC : Hid (plCode f r k l = 1) := Lib.hid (by unfold plCode; rw [hok]; rfl)
    have HOK := Lib.hid hok
    clear hok
    go_enter Tryd.func9, Tryd.ntmps9
    go_upto_region 1 with (fail)
    obtain ⟨W, hW, M⟩ := open_plots f r k l w
    rw [hW]; clear hW
    go_wp2_with (first
      | (refine wpList_load_part rfl 31 _ rfl w.heap.size 0 rfl (fcells f) _ (M.at 0 rfl).whole Tryd.underlying31 rfl (by rw [fcells_size]; exact sizeFd) ?_)
      | (refine wpList_buildRow rfl 88 31 _ rfl (fcells f) rfl Tryd.underlying88 (by rw [fcells_size]; exact sizeFd) (by rw [fcells_size]; kernel_rfl) (by rw [fcells_size]; omega) (by rw [fcells_size]; omega) ?_)
      | (go_at_call 31; refine (checkFields1 f hf A _ _ _ (Blk.new _ _ _) (S.out.later (M.alloc _ _).below)).mono ?_; rintro e W2 ⟨rfl, hb⟩; rw [HOK.out, errIf_false]; have M2 := (M.alloc _ _).call hb; have hv2 := (S.out.later M2.below).v2; have c1 := (M2.at 1 rfl).cell (i := 0) rfl; have c2 := (M2.at 2 rfl).cell (i := 0) rfl; have c3 := (M2.at 3 rfl).cell (i := 0) rfl; clear hb)
      | (go_at_call 32; refine (codeOf_err A 1 (by omega) (by omega) _ (S.out.later M2.below)).mono ?_; rintro e W3 ⟨rfl, rfl⟩))
    go_ret2
    exact plP_bad HC.out (by decide) _ _ M2.below
  | true =>
  have HOK := Lib.hid hok
  cases hq : ripOk r k l with
  | false =>
    have HC : Hid (plCode f r k l = 2) := Lib.hid (by unfold plCode; rw [hok, hq]; rfl)
    have HQ : Hid ((inB r 0 20 && inB k 0 20 && inB l 0 1000) = false) := Lib.hid hq
    clear hok hq
    go_enter Tryd.func9, Tryd.ntmps9
    go_upto_region 1 with (fail)
    obtain ⟨W, hW, M⟩ := open_plots f r k l w
    rw [hW]; clear hW
    go_wp2_with (first
      | (refine wpList_load_part rfl 31 _ rfl w.heap.size 0 rfl (fcells f) _ (M.at 0 rfl).whole Tryd.underlying31 rfl (by rw [fcells_size]; exact sizeFd) ?_)
      | (refine wpList_buildRow rfl 88 31 _ rfl (fcells f) rfl Tryd.underlying88 (by rw [fcells_size]; exact sizeFd) (by rw [fcells_size]; kernel_rfl) (by rw [fcells_size]; omega) (by rw [fcells_size]; omega) ?_)
      | (go_at_call 31; refine (checkFields1 f hf A _ _ _ (Blk.new _ _ _) (S.out.later (M.alloc _ _).below)).mono ?_; rintro e W2 ⟨rfl, hb⟩; rw [HOK.out, errIf_true]; have M2 := (M.alloc _ _).call hb; have hv2 := (S.out.later M2.below).v2; have c1 := (M2.at 1 rfl).cell (i := 0) rfl; have c2 := (M2.at 2 rfl).cell (i := 0) rfl; have c3 := (M2.at 3 rfl).cell (i := 0) rfl; clear hb)
      | (go_at_call 33; refine (isRipening_any _ _ _ _).mono ?_; rintro e w9 ⟨rfl, rfl⟩; rw [HQ.out])
      | (go_at_call 32; refine (codeOf_err A 2 (by omega) (by omega) _ (S.out.later M2.below)).mono ?_; rintro e W3 ⟨rfl, rfl⟩))
    go_ret2
    exact plP_bad HC.out (by decide) _ _ M2.below
  | true =>
  have HQ : Hid ((inB r 0 20 && inB k 0 20 && inB l 0 1000) = true) := Lib.hid hq
  have HCC : Hid (plCode f r k l = if 6 < (plotsR f r k l 100).length then 3 else 0) := Lib.hid (by unfold plCode; rw [hok, hq]; rfl)
  have hq' := hq
  unfold ripOk at hq'
  simp only [Bool.and_eq_true, inB_iff] at hq'
  obtain ⟨⟨hr, hk⟩, hl⟩ := hq'
  have HS := Lib.hid (fun (i : Nat) (hi : i < 100) => okF_seeds hok hi)
  have HX := Lib.hid (plotsX_to f hok r k l 100 (Nat.le_refl _))
  have hwr : IntKind.i16.wrap r = r := IntWalk.i16_in _ (by omega)
  have hwk : IntKind.i16.wrap k = k := IntWalk.i16_in _ (by omega)
  have hwl : IntKind.i16.wrap l = l := IntWalk.i16_in _ (by omega)
  have hWs : inB f.W 1 10 = true := by simp only [okF, Bool.and_eq_true] at hok; exact hok.1.1
  have hHs : inB f.H 1 10 = true := by simp only [okF, Bool.and_eq_true] at hok; exact hok.1.2
  have HWH := Lib.hid (And.intro hWs hHs)
  clear hok hq hWs hHs hr hk hl
  obtain ⟨i0, hi, hz0, hz1, hz2⟩ := info_parts Pinfo'
  have hdep : Fence.wide.depth.isSome = false := rfl
  have hfn : ∀ k, Fence.wide.fn k := fun _ => trivial
  refine (callsIn_wide (n := 3)).1 ?_
  refine callsIn_of_wp_marks Tryd.func9 rfl trivial ?_ rfl
  simp only [Tryd.ntmps9, List.size_toArray, List.length_cons, List.length_nil, Nat.reduceAdd, Nat.reduceSub, Array.replicate_succ, Array.replicate_zero, List.push_toArray, List.append_toArray, List.nil_append, List.cons_append]
  gi_upto_region 1 with (fail)
  obtain ⟨W, hW, M⟩ := open_plots f r k l w
  rw [hW]; clear hW
  refine wpIn_wide.2 ?_
  go_wp2_with (first
    | (refine wpList_load_part rfl 31 _ rfl w.heap.size 0 rfl (fcells f) _ (M.at 0 rfl).whole Tryd.underlying31 rfl (by rw [fcells_size]; exact sizeFd) ?_)
    | (refine wpList_buildRow rfl 88 31 _ rfl (fcells f) rfl Tryd.underlying88 (by rw [fcells_size]; exact sizeFd) (by rw [fcells_size]; kernel_rfl) (by rw [fcells_size]; omega) (by rw [fcells_size]; omega) ?_)
    | (go_at_call 31; refine (checkFields1 f hf A _ _ _ (Blk.new _ _ _) (S.out.later (M.alloc _ _).below)).mono ?_; rintro e W2 ⟨rfl, hb⟩; rw [HOK.out, errIf_true]; have M2 := (M.alloc _ _).call hb; have hv2 := (S.out.later M2.below).v2; have c1 := (M2.at 1 rfl).cell (i := 0) rfl; have c2 := (M2.at 2 rfl).cell (i := 0) rfl; have c3 := (M2.at 3 rfl).cell (i := 0) rfl; clear hb))
  gi_upto_region 7 with (gi_at_call 33; refine (callsIn_wide.2 (isRipening_any _ _ _ _)).mono ?_; rintro e w9 ⟨rfl, rfl⟩; rw [HQ.out])
  obtain ⟨ob, hob⟩ : ∃ ob, ob = W2.heap.size := ⟨_, rfl⟩
  have M3 : Mem w W2 [⟨w.heap.size, fcells f, 31⟩, ⟨w.heap.size + 1, #[.int .i64 r], 2⟩, ⟨w.heap.size + 1 + 1, #[.int .i64 k], 2⟩, ⟨w.heap.size + 1 + 1 + 1, #[.int .i64 l], 2⟩] := Mem.init (L := [⟨w.heap.size, fcells f, 31⟩, ⟨w.heap.size + 1, #[.int .i64 r], 2⟩, ⟨w.heap.size + 1 + 1, #[.int .i64 k], 2⟩, ⟨w.heap.size + 1 + 1 + 1, #[.int .i64 l], 2⟩]) M2
  have bO : Boxed (W2.alloc (.cells #[.slice none 0 0] 28)) ob 28 (.slice none 0 0) := by rw [hob]; exact Boxed.new W2 28 (.slice none 0 0)
  have hob2 : w.heap.size + 1 + 1 + 1 < ob := by rw [hob]; exact (M3.at 3 rfl).lt
  have M4 : Mem w (W2.alloc (.cells #[.slice none 0 0] 28)) [⟨w.heap.size, fcells f, 31⟩, ⟨w.heap.size + 1, #[.int .i64 r], 2⟩, ⟨w.heap.size + 1 + 1, #[.int .i64 k], 2⟩, ⟨w.heap.size + 1 + 1 + 1, #[.int .i64 l], 2⟩] := M3.other _
  have hszo : ob + 1 = (W2.alloc (.cells #[.slice none 0 0] 28)).heap.size := by rw [hob]; simp
  generalize W2.alloc (.cells #[.slice none 0 0] 28) = W3 at bO M4 hszo ⊢
  rw [← hob]
  clear hob M2 M3 hv2 c1 c2 c3
  gi_wp2_with (first
    | (refine loadIn hfn rfl 31 _ rfl w.heap.size 0 rfl (fcells f) _ (M4.at 0 rfl).whole Tryd.underlying31 rfl (by rw [fcells_size]; exact sizeFd) ?_)
    | (gi_at_call 34; refine (callsIn_wide.2 (cellsIn_any f _)).mono ?_; rintro e w' ⟨rfl, rfl⟩))
  obtain ⟨bi, hbi⟩ : ∃ bi, bi = W3.heap.size := ⟨_, rfl⟩
  have M5 : Mem w (W3.alloc (Obj.cells (fcells f) 31)) [⟨w.heap.size, fcells f, 31⟩, ⟨w.heap.size + 1, #[.int .i64 r], 2⟩, ⟨w.heap.size + 1 + 1, #[.int .i64 k], 2⟩, ⟨w.heap.size + 1 + 1 + 1, #[.int .i64 l], 2⟩, ⟨bi, fcells f, 31⟩] := by rw [hbi]; exact M4.alloc (fcells f) 31
  have bO2 : Boxed (W3.alloc (Obj.cells (fcells f) 31)) ob 28 (.slice none 0 0) := bO.alloc _
  generalize W3.alloc _ = W4 at M5 bO2 ⊢
  rw [← hbi]
  have hbo : ob < bi := by omega
  clear hbi M4 bO hszo
  have hsz : w.heap.size ≤ W4.heap.size := M5.below.size
  have hobw : w.heap.size ≤ ob := by omega
  have hne : ∀ x ∈ ([⟨w.heap.size, fcells f, 31⟩, ⟨w.heap.size + 1, #[.int .i64 r], 2⟩, ⟨w.heap.size + 1 + 1, #[.int .i64 k], 2⟩, ⟨w.heap.size + 1 + 1 + 1, #[.int .i64 l], 2⟩, ⟨bi, fcells f, 31⟩] : List Ent), x.b ≠ ob ∧ x.t ≠ 58 := by
    intro x hx
    simp only [List.mem_cons, List.mem_nil_iff, or_false] at hx
    rcases hx with rfl | rfl | rfl | rfl | rfl
    · exact ⟨by show w.heap.size ≠ ob; omega, by show (31 : TypeId) ≠ 58; decide⟩
    · exact ⟨by show w.heap.size + 1 ≠ ob; omega, by show (2 : TypeId) ≠ 58; decide⟩
    · exact ⟨by show w.heap.size + 1 + 1 ≠ ob; omega, by show (2 : TypeId) ≠ 58; decide⟩
    · exact ⟨by show w.heap.size + 1 + 1 + 1 ≠ ob; omega, by show (2 : TypeId) ≠ 58; decide⟩
    · exact ⟨by show bi ≠ ob; omega, by show (31 : TypeId) ≠ 58; decide⟩
  refine wpIn_rangeFunc_ownF rfl (by omega) (gf := 53) (lb := #[.pointer (some ⟨bi, 0, none⟩)]) rfl trivial (enters_of Tryd.func53 (by kernel_rfl) rfl)
    (cells_stops 2 bi f (inB_size HWH.out.1) (inB_size HWH.out.2) W4 (M5.at 4 rfl)) (fun h k => k.trans h)
    (fun W l o o' hl ho hc _ => World.putObj_heap_other (fun e => by
      have := (M5.at 4 rfl).lt
      omega))
    (Below.refl _ _) (fun _ => rfl)
    (fun pre W => (∃ v, Boxed W ob 28 v ∧ W.ownsRow ob 58 4 v (plotsX r k l pre).length (scells ksPlot (plotsX r k l pre).length (rowsF (plotsX r k l pre))).toList ∧ True) ∧ Mem w W [⟨w.heap.size, fcells f, 31⟩, ⟨w.heap.size + 1, #[.int .i64 r], 2⟩, ⟨w.heap.size + 1 + 1, #[.int .i64 k], 2⟩, ⟨w.heap.size + 1 + 1 + 1, #[.int .i64 l], 2⟩, ⟨bi, fcells f, 31⟩])
    (fun _ _ _ => False)
    (OwnFrom.and (Own.from (holdsRow_own ob ob 28 58 4 (fun pre : List (CellOf f) => (plotsX r k l pre).length) (fun pre => (scells ksPlot (plotsX r k l pre).length (rowsF (plotsX r k l pre))).toList) (fun _ _ => True)) _) (fun s A B row hs hg hr => hs.grown hsz hg hr))
    (fun c s A B row hs hg hr => hs)
    ⟨⟨_, bO2, World.ownsRow_nil _ _ _ _, trivial⟩, M5⟩
    (fun x => { tmps := #[.agg (fcells f), .int .i64 r, .int .i64 k, .int .i64 l, .pointer (some ⟨w.heap.size, 0, none⟩), .pointer (some ⟨w.heap.size + 1, 0, none⟩), .pointer (some ⟨w.heap.size + 1 + 1, 0, none⟩), .pointer (some ⟨w.heap.size + 1 + 1 + 1, 0, none⟩), .slice none 0 0, .int .i64 0, .nilIface, .pointer (some ⟨ob, 0, none⟩), .int .i64 (x.1 : Int), undef, .agg (fcells f), .slice (some ⟨W.heap.size, 0, none⟩) 1 1, .nilIface, .nilIface, .bool false, undef, undef, .int .i64 r, .int .i64 k, .int .i64 l, .bool true, .bool false, undef, undef, .agg (fcells f), .func (.func 53) #[] #[.pointer (some ⟨bi, 0, none⟩)], .int .i64 (x.1 : Int), undef, undef, undef, undef, undef, undef, undef, undef, undef, undef, undef, undef, undef, undef, undef, undef, undef, undef, undef, undef, undef, undef, undef], defers := [] }) ?assign ?body ?done ?stop
  case assign =>
    intro l9 x W K hK
    gi_wp2
    exact hK
  case body =>
    rintro l9 pre x W5 ⟨⟨v, hv, hrow, _⟩, M6⟩ hlen
    have hfn' : ∀ k, (Fence.wide.inRound l9).fn k := fun _ => trivial
    have hdep' : (Fence.wide.inRound l9).depth.isSome = false := rfl
    have hx := isCell_lt x.2
    have hx1 : (x.1 : Int) < 100 := by omega
    obtain ⟨s1, s2⟩ := HS.out x.1 hx
    have hlen' : pre.length < 100 := hlen
    have hpl := plotsX_len r k l pre
    have cS := (M6.at 0 rfl).cell (fcells_S f x.1 hx)
    have c1 := (M6.at 1 rfl).cell (i := 0) rfl
    have c2 := (M6.at 2 rfl).cell (i := 0) rfl
    have c3 := (M6.at 3 rfl).cell (i := 0) rfl
    have hn0 : ob ≤ W5.heap.size := by have := hv.lt; omega
    by_cases hS : 0 < f.S x.1
    · have e := Lib.hid (show plotsX r k l (pre ++ [x]) = plotsX r k l pre ++ [plotR f r k l x.1] by rw [plotsX_snoc, if_pos hS])
      have hrc : Hid (rcells ksPlot (plotR f r k l x.1) = [.int .i16 (f.S x.1), .int .i16 r, .int .i16 k, .int .i16 l]) := Lib.hid rfl
      obtain ⟨R, hR⟩ : ∃ R, plotsX r k l pre = R := ⟨_, rfl⟩
      rw [hR] at hrow e hpl
      clear hR
      obtain ⟨p9, c9, rfl⟩ := own_out hrow
      have hc := hv.cell
      have M8 := Lib.hid (fun (v' : Value) (w1 : World) (tmp : Obj) (hg : (W5.alloc tmp).grownBy w1 _) => M6.appended v' hrow hg hobw hobw hne)
      gi_wp2_with (gi_at_builtin; refine wpListIn_append_own _ rfl _ _ 28 rfl ob 58 i0 (.agg #[.int .i16 0, .int .i16 0, .int .i16 0, .int .i16 0]) 4 8 Tryd.underlying28 hi hz0 hz1 hz2 rfl (by decide) _ _ _ rfl (hrow.alloc _) ⟨W5.heap.size, 0, none⟩ 1 1 [.int .i16 (f.S x.1), .int .i16 r, .int .i16 k, .int .i16 l] rfl rfl (row_new W5 [.int .i16 (f.S x.1), .int .i16 r, .int .i16 k, .int .i16 l] 58) (by intro u hu; simp at hu; rcases hu with rfl | rfl | rfl | rfl <;> rfl) (by unfold maxLen; omega) (by omega) (by simp; omega) ?_; intro v' w1 hown' hgrow _; obtain ⟨g', cap', rfl⟩ := ownsRow_succ hown'; obtain ⟨hv1, hv2, hr2, hk2, hb2⟩ := hv.appended (by decide) hrow hn0 (Nat.le_refl _) hown' hgrow; have hc1 := hv1.cell; have hf1 := hv1.frozen)
      have M9 := M8.out (.slice (some ⟨g', 0, none⟩) (R.length + 1) cap') _ _ hgrow
      refine ⟨hk2, M6.same M9 4 4 rfl rfl, ⟨_, hv2, ?_, trivial⟩, M9⟩
      rw [e.out, scells_snoc, hrc.out, List.length_append]; exact hr2
    · have e := Lib.hid (show plotsX r k l (pre ++ [x]) = plotsX r k l pre by rw [plotsX_snoc, if_neg hS])
      gi_wp2
      refine ⟨KeepsOthers.refl _, rfl, ?_⟩
      first | exact ⟨⟨v, hv, by rw [e.out]; exact hrow⟩, M6⟩ | exact ⟨⟨v, hv, by rw [e.out]; exact hrow, trivial⟩, M6⟩
  case done =>
    rintro D xs W5 hD rfl ⟨⟨v, hv, hrow, _⟩, M6⟩ hK
    rw [HX.out] at hrow
    obtain ⟨R, hR⟩ : ∃ R, plotsR f r k l 100 = R := ⟨_, rfl⟩
    have HR := Lib.hid hR
    have hlen := plotsR_le f r k l 100
    rw [hR] at hrow hlen
    have HC : Hid (plCode f r k l = if 6 < R.length then 3 else 0) := Lib.hid (by rw [← hR]; exact HCC.out)
    clear hR HCC HX
    obtain ⟨p9, c9, rfl⟩ := own_out hrow
    have hc := hv.cell
    have M7 := M6.taken (o' := .deferred none) (Nat.le_trans hsz hD) hK rfl
    have hv3 := (S.out.later M6.below).v3
    by_cases h6 : 6 < R.length
    · have HC3 : Hid (plCode f r k l = 3) := Lib.hid (by rw [HC.out, if_pos h6])
      gi_wp2_with (gi_at_call 32; refine (callsIn_wide.2 (codeOf_err A 3 (by omega) (by omega) _ (S.out.later M6.below))).mono ?_; rintro e W3 ⟨rfl, rfl⟩)
      refine ⟨by simp, .inl ⟨_, _, rfl, run_takeDeferred hK, ?_⟩⟩
      exact ⟨.tuple #[.slice none 0 0, .int .i64 3], by simp [results, Tryd.results9, go_sem], plP_bad HC3.out (by decide) _ _ M7.below⟩
    · have HC3 : Hid (plCode f r k l = 0) := Lib.hid (by rw [HC.out, if_neg h6])
      gi_wp2
      refine ⟨by simp, .inl ⟨_, _, rfl, run_takeDeferred hK, ?_⟩⟩
      exact ⟨.tuple #[.slice p9 R.length c9, .int .i64 0], by simp [results, Tryd.results9, go_sem], plP_ok HC3.out HR.out ob hobw (ownsRow_putObj hrow _ hK rfl) M7.below⟩
  case stop =>
    rintro D c pre W5 hD _ h hK
    exact h.elim
end Go.Proofs.YtddbpbibjiahgaaDoor
