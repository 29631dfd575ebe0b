/-
  The cells that a closure wants: cellsWhere, by what the closure answers for each cell.
-/
import Derived.Test.YtpplakfmdjajiaaDoorPut
import Derived.Test.YtpplakfmdjajiaaDoorValid
import Derived.Test.YtpplakfmdjajiaaDoorRelC
import Derived.BigRegionIn
import Derived.Deep.QuietTactic
namespace Go.Proofs.YtpplakfmdjajiaaDoor
open Go Go.RowKit Go.Shelf
attribute [local go_sem] Oper.semAt_some

/-- The cells below n that are wanted. -/
def wantSet (f : Fd) (q : Nat → Bool) : Nat → Nat → Int
  | 0 => fun _ => 0
  | n + 1 => if (isCell f n && q n) = true then putC (wantSet f q n) n else wantSet f q n
theorem wantSet_yes {f : Fd} {q : Nat → Bool} {n : Nat} (h1 : isCell f n = true) (h2 : q n = true) : wantSet f q (n + 1) = putC (wantSet f q n) n := by
  rw [wantSet, h1, h2]; rfl
theorem wantSet_no {f : Fd} {q : Nat → Bool} {n : Nat} (h : (isCell f n && q n) = false) : wantSet f q (n + 1) = wantSet f q n := by
  rw [wantSet, h]; rfl
/-- The wanted cells of a list. -/
def wantL {f : Fd} (q : Nat → Bool) (l : List (CellOf f)) : Nat → Int := l.foldl (fun g c => if q c.1 = true then putC g c.1 else g) (fun _ => 0)
theorem wantL_snoc {f : Fd} (q : Nat → Bool) (l : List (CellOf f)) (c : CellOf f) : wantL q (l ++ [c]) = if q c.1 = true then putC (wantL q l) c.1 else wantL q l := by simp only [wantL, List.foldl_append, List.foldl_cons, List.foldl_nil]
theorem wantL_to (f : Fd) (q : Nat → Bool) : ∀ n, wantL q (cellsTo f n) = wantSet f q n
  | 0 => rfl
  | n + 1 => by
    have ih := wantL_to f q n
    cases h : isCell f n with
    | true =>
      rw [cellsTo_yes h, wantL_snoc, ih, wantSet, h, Bool.true_and]
    | false => rw [cellsTo_no h, ih, wantSet_no (by rw [h]; rfl)]
set_option maxRecDepth 100000 in
set_option maxHeartbeats 8000000 in
theorem cellsWhere_any (f : Fd) (hok : okF f = true) (fc : FuncId) (caps : Array Value) (q : Nat → Bool) (E : World → Prop) (hE : ∀ w w', E w → Below w.heap.size w w' → E w')
    (hcl : ∀ (k : Nat) (w' : World), isCell f k = true → E w' → Calls Tryd.prog fc (#[.int .i64 k] ++ caps) w' fun e w2 => e = .returned (.bool (q k)) ∧ Below w'.heap.size w' w2)
    (w : World) (he : E w) (hent : ∀ (args : Array Value) (w : World), (callFunc fc args).run Tryd.prog w = .ok (.enter fc args) w) :
    Calls Tryd.prog 107 #[.agg (fcells f), .func (.func fc) #[] caps] w fun e w' => e = .returned (.agg (acells .u64 2 (wantSet f q 100))) ∧ Below w.heap.size w w' := by
  have hWs : inB f.W 1 10 = true := by simp only [okF, Bool.and_eq_true] at hok; exact hok.1.1
  have hHs : inB f.H 1 10 = true := by simp only [okF, Bool.and_eq_true] at hok; exact hok.1.2
  have HCL := Lib.hid hcl
  have HE := Lib.hid hE
  have E0 := Lib.hid he
  have HENT := Lib.hid hent
  clear hcl hE he hent
  have hdep : Fence.wide.depth.isSome = false := rfl
  have hfn : ∀ k, Fence.wide.fn k := fun _ => trivial
  refine (callsIn_wide (n := 3)).1 ?_
  refine callsIn_of_wp_marks Tryd.func107 rfl trivial ?_ rfl
  simp only [Tryd.ntmps107, List.size_toArray, List.length_cons, List.length_nil, Nat.reduceAdd, Nat.reduceSub, Array.replicate_succ, Array.replicate_zero, List.push_toArray, List.append_toArray, List.nil_append, List.cons_append]
  gi_upto_region 2 with (fail)
  rw [zero2]
  obtain ⟨W, hW, M⟩ := open3 w (fcells f) 32 #[.func (.func fc) #[] caps] 88 (acells .u64 2 (fun _ => 0)) 49
  have M3 : Mem w (W.alloc (.cells (acells .u64 2 (fun _ => 0)) 49)) [⟨w.heap.size, fcells f, 32⟩, ⟨w.heap.size + 1, #[.func (.func fc) #[] caps], 88⟩, ⟨w.heap.size + 1 + 1, acells .u64 2 (fun _ => 0), 49⟩, ⟨w.heap.size + 1 + 1 + 1, acells .u64 2 (fun _ => 0), 49⟩] := by
    have h := M.alloc (acells .u64 2 (fun _ => 0)) 49
    have hs : W.heap.size = w.heap.size + 1 + 1 + 1 := by rw [← hW]; simp
    rw [hs] at h
    exact h
  rw [hW]; clear hW M
  generalize W.alloc _ = W3 at M3 ⊢
  gi_wp2_with (first
    | (refine loadIn hfn rfl 32 _ rfl w.heap.size 0 rfl (fcells f) _ (M3.at 0 rfl).whole Tryd.underlying32 rfl (by rw [fcells_size]; exact sizeFd) ?_)
    | (gi_at_call 51; refine (callsIn_wide.2 (cellsIn_any f _)).mono ?_; rintro e w' ⟨rfl, rfl⟩))
  obtain ⟨bi, hbi⟩ : ∃ bi, bi = W3.heap.size := ⟨_, rfl⟩
  have M4 : Mem w (W3.alloc (Obj.cells (fcells f) 32)) [⟨w.heap.size, fcells f, 32⟩, ⟨w.heap.size + 1, #[.func (.func fc) #[] caps], 88⟩, ⟨w.heap.size + 1 + 1, acells .u64 2 (fun _ => 0), 49⟩, ⟨w.heap.size + 1 + 1 + 1, acells .u64 2 (wantL (f := f) q []), 49⟩, ⟨bi, fcells f, 32⟩] := by rw [hbi]; exact M3.alloc (fcells f) 32
  generalize W3.alloc _ = W4 at M4 ⊢
  rw [← hbi]
  clear hbi M3
  have hsz : w.heap.size ≤ W4.heap.size := M4.below.size
  refine wpIn_rangeFunc_ownF rfl (by omega) (gf := 94) (lb := #[.pointer (some ⟨bi, 0, none⟩)]) rfl trivial (enters_of Tryd.func94 (by kernel_rfl) rfl)
    (cells_stops 2 bi f (inB_size hWs) (inB_size hHs) W4 (M4.at 4 rfl)) (fun h k => k.trans h)
    (fun W l o o' hl ho hc _ => World.putObj_heap_other (fun e => by
      have := (M4.at 4 rfl).lt
      omega))
    (Below.refl _ _) (fun _ => rfl)
    (fun pre W => Mem w W [⟨w.heap.size, fcells f, 32⟩, ⟨w.heap.size + 1, #[.func (.func fc) #[] caps], 88⟩, ⟨w.heap.size + 1 + 1, acells .u64 2 (fun _ => 0), 49⟩, ⟨w.heap.size + 1 + 1 + 1, acells .u64 2 (wantL q pre), 49⟩, ⟨bi, fcells f, 32⟩])
    (fun _ _ _ => False)
    (fun s A B row hs hg hr => hs.grown hsz hg hr)
    (fun c s A B row hs hg hr => hs)
    M4
    (fun x => { tmps := #[.agg (fcells f), .func (.func fc) #[] caps, .pointer (some ⟨w.heap.size, 0, none⟩), .pointer (some ⟨w.heap.size + 1, 0, none⟩), .pointer (some ⟨w.heap.size + 1 + 1, 0, none⟩), .pointer (some ⟨w.heap.size + 1 + 1 + 1, 0, none⟩), .int .i64 (x.1 : Int), .agg (fcells f), .func (.func 94) #[] #[.pointer (some ⟨bi, 0, none⟩)], .int .i64 (x.1 : Int), undef, undef, undef, undef, undef, undef, undef], defers := [] }) ?assign ?body ?done ?stop
  case assign =>
    intro l x W K hK
    gi_wp2
    exact hK
  case body =>
    rintro l pre x W5 M5 _
    have hfn' : ∀ k, (Fence.wide.inRound l).fn k := fun _ => trivial
    have hdep' : (Fence.wide.inRound l).depth.isSome = false := rfl
    have hx := isCell_lt x.2
    have cf := (M5.at 1 rfl).cell (i := 0) rfl
    have hcall := HCL.out x.1 W5 x.2 (HE.out _ _ E0.out M5.below)
    cases hkv : q x.1 with
    | false =>
      rw [hkv] at hcall
      have hno : Hid (wantL q (pre ++ [x]) = wantL q pre) := Lib.hid (by rw [wantL_snoc, hkv]; rfl)
      gi_wp2_with (refine callDynIn hfn' hdep' rfl rfl rfl (#[.int .i64 (x.1 : Int)] ++ caps) (by rw [Array.toList_append]; rfl) HENT.out (.bool false) (fun w2 => Below W5.heap.size W5 w2) (by exact CallsIn.inRound l (callsIn_wide.2 hcall)) ?_; intro W6 hb6; have M6 := M5.call hb6)
      exact ⟨KeepsOthers.of_below hb6, M5.same M6 4 4 rfl rfl, by show Mem w _ _; rw [hno.out]; exact M6⟩
    | true =>
      rw [hkv] at hcall
      have hyes : Hid (wantL q (pre ++ [x]) = putC (wantL q pre) x.1) := Lib.hid (by rw [wantL_snoc, hkv]; rfl)
      gi_wp2_with (first
        | (refine callDynIn hfn' hdep' rfl rfl rfl (#[.int .i64 (x.1 : Int)] ++ caps) (by rw [Array.toList_append]; rfl) HENT.out (.bool true) (fun w2 => Below W5.heap.size W5 w2) (by exact CallsIn.inRound l (callsIn_wide.2 hcall)) ?_; intro W6 hb6; have M6 := M5.call hb6)
        | (refine loadIn hfn' rfl 49 _ rfl (w.heap.size + 1 + 1 + 1) 0 rfl (acells .u64 2 (wantL q pre)) _ (M6.at 3 rfl).whole Tryd.underlying49 rfl (by rw [acells_size]; exact sizeC) ?_)
        | (gi_at_call 104; refine (CallsIn.inRound l (callsIn_wide.2 (withCell_any (wantL q pre) x.1 hx _))).mono ?_; rintro e W7 ⟨rfl, hb7⟩; have M7 := M6.call hb7)
        | (refine storeIn hfn' rfl 49 _ _ rfl (w.heap.size + 1 + 1 + 1) 0 (acells .u64 2 (putC (wantL q pre) x.1)) rfl rfl ((M7.at 3 rfl).there 0 _ (by simp only [acells_size]; omega)) (by rw [acells_size]; exact sizeC) (acells_one _ _ _) ?_))
      have M8 := M7.cells 3 0 (acells .u64 2 (putC (wantL q pre) x.1)).toList rfl (acells .u64 2 (putC (wantL q pre) x.1)) ((M7.at 3 rfl).over (acells .u64 2 (putC (wantL q pre) x.1)) (by simp only [acells_size]))
      exact ⟨((KeepsOthers.of_below hb6).trans (KeepsOthers.of_below hb7)).trans (keeps_setCells _ _ _ _), M5.same M8 4 4 rfl rfl, by show Mem w _ _; rw [hyes.out]; exact M8⟩
  case done =>
    rintro D xs W5 hD rfl M5 hK
    rw [wantL_to f q 100] at M5
    have M6 := M5.cells 2 0 (acells .u64 2 (wantSet f q 100)).toList rfl (acells .u64 2 (wantSet f q 100)) ((M5.at 2 rfl).over (acells .u64 2 (wantSet f q 100)) (by simp only [acells_size]))
    have hK6 : (W5.setCells (w.heap.size + 1 + 1) 0 (acells .u64 2 (wantSet f q 100)).toList).heap[D]? = some (.deferred (some [])) := by
      have hne : D ≠ w.heap.size + 1 + 1 := fun e => by
        have h := M5.at 2 rfl
        rw [e] at hK
        rw [show W5.heap[w.heap.size + 1 + 1]? = _ from h] at hK
        cases hK
      rw [look_cells_other _ _ hne]; exact hK
    gi_wp2_with (first
      | (refine loadIn hfn rfl 49 _ rfl (w.heap.size + 1 + 1 + 1) 0 rfl (acells .u64 2 (wantSet f q 100)) _ (M5.at 3 rfl).whole Tryd.underlying49 rfl (by rw [acells_size]; exact sizeC) ?_)
      | (refine storeIn hfn rfl 49 _ _ rfl (w.heap.size + 1 + 1) 0 (acells .u64 2 (wantSet f q 100)) rfl rfl ((M5.at 2 rfl).there 0 _ (by simp only [acells_size]; omega)) (by rw [acells_size]; exact sizeC) (acells_one _ _ _) ?_))
    refine ⟨by simp, .inl ⟨_, _, rfl, run_takeDeferred hK6, ?_⟩⟩
    have M7 := M6.taken (o' := .deferred none) (Nat.le_trans hsz hD) hK6 rfl
    exact ⟨_, results_cell_row rfl _ _ (w.heap.size + 1 + 1) 49 _ _ _ rfl (M7.at 2 rfl) Tryd.underlying49 rfl (by rw [acells_size]; exact sizeC), rfl, M7.below⟩
  case stop =>
    rintro D c pre W5 hD _ h hK
    exact h.elim
end Go.Proofs.YtpplakfmdjajiaaDoor
