/-
  LossOf: the program's.
-/
import Derived.Test.YtpiejcibjphffaaDoorPairS
import Derived.Test.YtpiejcibjphffaaDoorSumC
namespace Go.Proofs.YtpiejcibjphffaaDoor
open Go Go.RowKit Go.Shelf
attribute [local go_sem] Oper.semAt_some

/-- The losses of some cells. -/
def lossL (f g : Fd) (l : List (CellOf f)) : Nat → Int := l.foldl (fun h c => fun j => if j = c.1 then lossN f g c.1 else h j) (fun _ => 0)
theorem lossL_snoc (f g : Fd) (l : List (CellOf f)) (c : CellOf f) : lossL f g (l ++ [c]) = fun j => if j = c.1 then lossN f g c.1 else lossL f g l j := by simp [lossL, List.foldl_append]
theorem lossL_at (f g : Fd) : ∀ n k, lossL f g (cellsTo f n) k = if k < n ∧ isCell f k = true then lossN f g k else 0
  | 0, k => by simp [cellsTo, lossL]
  | n + 1, k => by
    have ih := lossL_at f g n k
    by_cases h : isCell f n = true
    · rw [cellsTo_yes h, lossL_snoc]
      simp only []
      by_cases e : k = n
      · subst e; simp [h]
      · have e1 : (k < n + 1 ∧ isCell f k = true) ↔ (k < n ∧ isCell f k = true) := by constructor <;> (rintro ⟨a, b⟩; exact ⟨by omega, b⟩)
        rw [if_neg e, ih]; simp only [e1]
    · have h' : isCell f n = false := by simpa using h
      rw [cellsTo_no h', ih]
      by_cases e : k = n
      · subst e; simp [h']
      · have e1 : (k < n + 1 ∧ isCell f k = true) ↔ (k < n ∧ isCell f k = true) := by constructor <;> (rintro ⟨a, b⟩; exact ⟨by omega, b⟩)
        simp only [e1]
theorem lossN_out {f g : Fd} (h1 : okF f = true) (h2 : okF g = true) (hs : sameKB f g = true) {i : Nat} (hi : i < 100) (hc : isCell f i = false) : lossN f g i = 0 := by
  unfold lossN; rw [ok_outS h1 hi hc, ok_outS h2 hi (by rw [isCell_same hs]; exact hc)]; rfl
theorem lossL_all {f g : Fd} (h1 : okF f = true) (h2 : okF g = true) (hs : sameKB f g = true) : acells .i16 100 (lossL f g (cellsTo f 100)) = acells .i16 100 (lossN f g) := acells_congr (fun i hi => by
  rw [lossL_at]
  by_cases hc : isCell f i = true
  · rw [if_pos ⟨hi, hc⟩]
  · rw [if_neg (fun h => hc h.2), lossN_out h1 h2 hs hi (by simpa using hc)])

set_option maxRecDepth 100000 in
set_option maxHeartbeats 8000000 in
theorem implLossOf_bad (f g : Fd) (hf : f.Wf) (hg : g.Wf) (h : pairCode f g ≠ 0) (A : Nat → Addr) (w : World) (S0 : Sents w A) : Calls Tryd.prog 12 #[.agg (fcells f), .agg (fcells g)] w fun e w' => e = .returned (.tuple #[.agg (acells .i16 100 (lossRow f g)), .int .i64 (pairCode f g)]) ∧ Below w.heap.size w w' := by
  unfold lossRow
  rw [if_neg h]
  have S := Lib.hid S0
  clear S0
  obtain ⟨et, ev, hcall, hcode⟩ := pairOf_err f g hf hg h
  have hif := isIfaceErr
  clear h
  go_enter Tryd.func12, Tryd.ntmps12
  go_upto_region 1 with (fail)
  obtain ⟨W, hW, M⟩ := open3 w (fcells f) 30 (fcells g) 30 Tryd.zeroCells25 25
  rw [hW]; clear hW
  have hz : Hid (Tryd.zeroCells25.size = 100) := Lib.hid (by rw [zeroS, acells_size])
  have ok1 : True := trivial
  have ok2 : True := trivial
  have hzp : Hid (Tryd.zeroCells67.size = 404) := Lib.hid (by rw [zeroP, pcells_size])
  go_upto_region 2 with (first
    | (clear ok1; (refine wpList_load_part rfl 30 _ rfl w.heap.size 0 rfl (fcells f) _ (M.at 0 rfl).whole Tryd.underlying30 rfl (by rw [fcells_size]; exact sizeFd) ?_))
    | (clear ok2; (refine wpList_load_part rfl 30 _ rfl (w.heap.size + 1) 0 rfl (fcells g) _ (M.at 1 rfl).whole Tryd.underlying30 rfl (by rw [fcells_size]; exact sizeFd) ?_))
    | (go_at_call 36; refine (hcall A _ (S.out.later M.below)).mono ?_; rintro e W2 ⟨rfl, hb⟩; have M2 := M.call hb; clear hb; have M3 := M2.alloc Tryd.zeroCells67 67)
    | (refine wpList_store_row rfl 67 _ _ rfl W2.heap.size (pcells Fd.zero Fd.zero) rfl rfl 67 _ (M3.at 3 rfl) (by rw [pcells_size]; exact sizeP) (by rw [pcells_size, hzp.out]) (pcells_one _ _) ?_))
  have M4 := M3.row 3 rfl (pcells Fd.zero Fd.zero)
  clear M M2 M3
  generalize World.setRow _ _ _ = W4 at M4 ⊢
  obtain ⟨b6, hb6⟩ : ∃ b6, b6 = W2.heap.size := ⟨_, rfl⟩
  rw [← hb6] at M4 ⊢
  clear hb6 hzp
  go_wp2_with (first
    | (go_at_call 37; refine (hcode A _ (S.out.later M4.below)).mono ?_; rintro e W5 ⟨rfl, hb⟩; have M5 := M4.call hb; clear hb)
    | (refine wpList_build0 rfl 25 rfl (.agg Tryd.zeroCells25) (bZeroS _) ?_)
    | (refine wpList_store_row rfl 25 _ _ rfl (w.heap.size + 1 + 1) Tryd.zeroCells25 rfl rfl 25 _ (M5.at 2 rfl) (by rw [hz.out]; exact sizeS) rfl (by rw [zeroS]; exact acells_one _ _ _) ?_))
  have M6 := M5.row 2 rfl Tryd.zeroCells25
  exact bodyPost_ret (results_row_tmp rfl _ _ (w.heap.size + 1 + 1) 25 _ _ _ rfl (M6.at 2 rfl) Tryd.underlying25 rfl (by rw [hz.out]; exact sizeS)) rfl ⟨by rw [zeroS]; rfl, M6.below⟩

set_option maxRecDepth 100000 in
set_option maxHeartbeats 8000000 in
theorem implLossOf_ok (f g : Fd) (hf : f.Wf) (hg : g.Wf) (h0 : pairCode f g = 0) (A : Nat → Addr) (w : World) (S0 : Sents w A) : Calls Tryd.prog 12 #[.agg (fcells f), .agg (fcells g)] w fun e w' => e = .returned (.tuple #[.agg (acells .i16 100 (lossN f g)), .int .i64 0]) ∧ Below w.heap.size w w' := by
  have S := Lib.hid S0
  have hp := Lib.hid h0
  obtain ⟨h1, h2, hs, _⟩ := pairCode_fine h0
  have hall := Lib.hid (lossL_all h1 h2 hs)
  have HLN := Lib.hid (fun i (hi : i < 100) => lossN_in h1 h2 hi)
  have hif := isIfaceErr
  have hWs : inB f.W 1 10 = true := by simp only [okF, Bool.and_eq_true] at h1; exact h1.1.1
  have hHs : inB f.H 1 10 = true := by simp only [okF, Bool.and_eq_true] at h1; exact h1.1.2
  have hWs' := Lib.hid (inB_size hWs)
  have hHs' := Lib.hid (inB_size hHs)
  have HF := Lib.hid hf
  have HG := Lib.hid hg
  clear S0 h0 h1 h2 hs hWs hHs
  have hdep : Fence.wide.depth.isSome = false := rfl
  have hfn : ∀ k, Fence.wide.fn k := fun _ => trivial
  refine (callsIn_wide (n := 3)).1 ?_
  refine callsIn_of_wp_marks Tryd.func12 rfl trivial ?_ rfl
  simp only [Tryd.ntmps12, List.size_toArray, List.length_cons, List.length_nil, Nat.reduceAdd, Nat.reduceSub, Array.replicate_succ, Array.replicate_zero, List.push_toArray, List.append_toArray, List.nil_append, List.cons_append]
  gi_upto_region 1 with (fail)
  obtain ⟨W, hW, M⟩ := open3 w (fcells f) 30 (fcells g) 30 Tryd.zeroCells25 25
  rw [hW]; clear hW
  have hz : Hid (Tryd.zeroCells25.size = 100) := Lib.hid (by rw [zeroS, acells_size])
  refine wpIn_wide.2 ?_
  have ok1 : True := trivial
  have ok2 : True := trivial
  have hzp : Hid (Tryd.zeroCells67.size = 404) := Lib.hid (by rw [zeroP, pcells_size])
  go_wp2_with (first
    | (clear ok1; (refine wpList_load_part rfl 30 _ rfl w.heap.size 0 rfl (fcells f) _ (M.at 0 rfl).whole Tryd.underlying30 rfl (by rw [fcells_size]; exact sizeFd) ?_))
    | (clear ok2; (refine wpList_load_part rfl 30 _ rfl (w.heap.size + 1) 0 rfl (fcells g) _ (M.at 1 rfl).whole Tryd.underlying30 rfl (by rw [fcells_size]; exact sizeFd) ?_))
    | (go_at_call 36; refine (pairOf_fine f g hf hg hp.out A _ (S.out.later M.below)).mono ?_; rintro e W2 ⟨rfl, hb⟩; have M2 := M.call hb; clear hb; have M3 := M2.alloc Tryd.zeroCells67 67)
    | (refine wpList_store_row rfl 67 _ _ rfl W2.heap.size (pcells f g) rfl rfl 67 _ (M3.at 3 rfl) (by rw [pcells_size]; exact sizeP) (by rw [pcells_size, hzp.out]) (pcells_one _ _) ?_))
  have M4 := M3.row 3 rfl (pcells f g)
  clear M M2 M3
  generalize World.setRow _ _ _ = W4 at M4 ⊢
  obtain ⟨b6, hb6⟩ : ∃ b6, b6 = W2.heap.size := ⟨_, rfl⟩
  rw [← hb6] at M4 ⊢
  clear hb6 hzp
  gi_upto_region 5 with (fail)
  have e0 : acells .i16 100 (lossL f g []) = Tryd.zeroCells25 := by rw [zeroS]; exact acells_congr (fun i hi => rfl)
  have M5 := M4.alloc Tryd.zeroCells25 25
  obtain ⟨b8, hb8⟩ : ∃ b8, b8 = W4.heap.size := ⟨_, rfl⟩
  rw [← hb8] at M5 ⊢
  generalize W4.alloc _ = W5 at M5 ⊢
  clear hb8 M4
  gi_wp2_with (first
    | (refine loadIn hfn rfl 67 _ rfl b6 0 rfl (pcells f g) _ (M5.at 3 rfl).whole Tryd.underlying67 rfl (by rw [pcells_size]; exact sizeP) ?_)
    | (gi_at_call 38; refine (callsIn_wide.2 (pairCells_any f g _)).mono ?_; rintro e w' ⟨rfl, rfl⟩))
  have M6 := (M5.alloc (pcells f g) 67).alloc (fcells f) 30
  obtain ⟨bi, hbi⟩ : ∃ bi, bi = W5.heap.size + 1 := ⟨_, rfl⟩
  rw [World.size_alloc, ← hbi] at M6
  generalize (W5.alloc _).alloc _ = W6 at M6 ⊢
  rw [← hbi]
  obtain ⟨bj, hbj⟩ : ∃ bj, bj = W5.heap.size := ⟨_, rfl⟩
  rw [← hbj] at M6
  clear hbi hbj M5
  have hsz : w.heap.size ≤ W6.heap.size := M6.below.size
  have M7 : Mem w W6 [⟨w.heap.size, fcells f, 30⟩, ⟨w.heap.size + 1, fcells g, 30⟩, ⟨w.heap.size + 1 + 1, Tryd.zeroCells25, 25⟩, ⟨b6, pcells f g, 67⟩, ⟨b8, acells .i16 100 (lossL f g []), 25⟩, ⟨bj, pcells f g, 67⟩, ⟨bi, fcells f, 30⟩] := by rw [e0]; exact M6
  clear M6 e0
  refine wpIn_rangeFunc_ownF rfl (by omega) (gf := 86) (lb := #[.pointer (some ⟨bi, 0, none⟩)]) rfl trivial (enters_of Tryd.func86 (by kernel_rfl) rfl)
    (cells_stops 2 bi f hWs'.out hHs'.out W6 (M7.at 6 rfl)) (fun h k => k.trans h)
    (fun W l o o' hl ho hc _ => World.putObj_heap_other (fun e => by
      have := (M7.at 6 rfl).lt
      omega))
    (Below.refl _ _) (fun _ => rfl)
    (fun pre W => Mem w W [⟨w.heap.size, fcells f, 30⟩, ⟨w.heap.size + 1, fcells g, 30⟩, ⟨w.heap.size + 1 + 1, Tryd.zeroCells25, 25⟩, ⟨b6, pcells f g, 67⟩, ⟨b8, acells .i16 100 (lossL f g pre), 25⟩, ⟨bj, pcells f g, 67⟩, ⟨bi, fcells f, 30⟩])
    (fun _ _ _ => False)
    (fun s A B row hs hg hr => hs.grown hsz hg hr)
    (fun c s A B row hs hg hr => hs)
    M7
    (fun x => { tmps := #[.agg (fcells f), .agg (fcells g), .pointer (some ⟨w.heap.size, 0, none⟩), .pointer (some ⟨w.heap.size + 1, 0, none⟩), .pointer (some ⟨w.heap.size + 1 + 1, 0, none⟩), .int .i64 0, .pointer (some ⟨b6, 0, none⟩), .nilIface, .pointer (some ⟨b8, 0, none⟩), .int .i64 (x.1 : Int), .tuple #[.agg (pcells f g), .nilIface], .agg (fcells f), .agg (fcells g), .tuple #[.agg (pcells f g), .nilIface], .agg (pcells f g), .nilIface, .nilIface, .bool false, undef, undef, undef, .agg (pcells f g), .func (.func 86) #[] #[.pointer (some ⟨bi, 0, none⟩)], .int .i64 (x.1 : Int), undef, undef, undef, undef, undef, undef, undef], defers := [] }) ?assign ?body ?done ?stop
  case assign =>
    intro l x W K hK
    gi_wp2
    exact hK
  case body =>
    rintro l pre x W8 M8 _
    have hfn' : ∀ k, (Fence.wide.inRound l).fn k := fun _ => trivial
    have hdep' : (Fence.wide.inRound l).depth.isSome = false := rfl
    have hx := isCell_lt x.2
    have hx1 : (x.1 : Int) < 100 := by omega
    have hr := HLN.out x.1 hx
    have hsn := Lib.hid (lossL_snoc f g pre x)
    obtain ⟨v, hv⟩ : ∃ v, v = lossN f g x.1 := ⟨_, rfl⟩
    rw [← hv] at hr
    obtain ⟨hr1, hr2⟩ := hr
    have hv2 := Lib.hid hv
    clear hv
    gi_wp2_with (first
      | (refine loadIn hfn' rfl 67 _ rfl b6 0 rfl (pcells f g) _ (M8.at 3 rfl).whole Tryd.underlying67 rfl (by rw [pcells_size]; exact sizeP) ?_)
      | (gi_at_call 39; refine (CallsIn.inRound l (callsIn_wide.2 (loss_any f g HF.out HG.out x.1 hx _))).mono ?_; rintro e W9 ⟨rfl, hb9⟩; rw [← hv2.out]; have M9 := M8.call hb9; have c3 := (M9.at 4 rfl).cell (acells_get _ _ _ x.1 hx); have f3 := (M9.at 4 rfl).free x.1))
    have M10 := M9.set 4 x.1 (.int .i16 v) rfl _ (acells_set _ _ _ _ _ hx)
    refine ⟨(KeepsOthers.of_below hb9).trans (KeepsOthers.setCell _ _ _), M8.same M10 6 6 rfl rfl, ?_⟩
    show Mem w _ _
    rw [hsn.out, ← hv2.out]
    exact M10
  case done =>
    rintro D xs W8 hD rfl M8 hK
    rw [hall.out] at M8
    have M9 := M8.cells 2 0 (acells .i16 100 (lossN f g)).toList rfl (acells .i16 100 (lossN f g)) ((M8.at 2 rfl).over (acells .i16 100 (lossN f g)) (by rw [acells_size, hz.out]))
    have hK9 : (W8.setCells (w.heap.size + 1 + 1) 0 (acells .i16 100 (lossN f g)).toList).heap[D]? = some (.deferred (some [])) := by
      have hne : D ≠ w.heap.size + 1 + 1 := fun e => by
        have h := M8.at 2 rfl
        rw [e] at hK
        rw [show W8.heap[w.heap.size + 1 + 1]? = _ from h] at hK
        cases hK
      rw [look_cells_other _ _ hne]; exact hK
    gi_wp2_with (first
      | (refine loadIn hfn rfl 25 _ rfl b8 0 rfl (acells .i16 100 (lossN f g)) _ (M8.at 4 rfl).whole Tryd.underlying25 rfl (by rw [acells_size]; exact sizeS) ?_)
      | (refine storeIn hfn rfl 25 _ _ rfl (w.heap.size + 1 + 1) 0 (acells .i16 100 (lossN f g)) rfl rfl ((M8.at 2 rfl).there 0 _ (by rw [acells_size, hz.out]; omega)) (by rw [acells_size]; exact sizeS) (acells_one _ _ _) ?_))
    refine ⟨by simp, .inl ⟨_, _, rfl, run_takeDeferred hK9, ?_⟩⟩
    have M10 := M9.taken (o' := .deferred none) (Nat.le_trans hsz hD) hK9 rfl
    exact ⟨_, results_row_tmp rfl _ _ (w.heap.size + 1 + 1) 25 _ _ _ rfl (M10.at 2 rfl) Tryd.underlying25 rfl (by rw [acells_size]; exact sizeS), rfl, M10.below⟩
  case stop =>
    rintro D c pre W8 hD _ h hK
    exact h.elim
theorem implLossOf (f g : Fd) (hf : f.Wf) (hg : g.Wf) (A : Nat → Addr) (w : World) (S0 : Sents w A) : Calls Tryd.prog 12 #[.agg (fcells f), .agg (fcells g)] w fun e w' => e = .returned (.tuple #[.agg (acells .i16 100 (lossRow f g)), .int .i64 (pairCode f g)]) ∧ Below w.heap.size w w' := by
  by_cases h : pairCode f g = 0
  · have := implLossOf_ok f g hf hg h A w S0
    unfold lossRow; rw [if_pos h, h]; exact this
  · exact implLossOf_bad f g hf hg h A w S0
end Go.Proofs.YtpiejcibjphffaaDoor
