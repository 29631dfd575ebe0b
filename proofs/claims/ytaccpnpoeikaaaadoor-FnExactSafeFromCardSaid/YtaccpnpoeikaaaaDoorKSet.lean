/-
  CellsOfKind: the model's, the program's.
-/
import Derived.Test.YtaccpnpoeikaaaaDoorCoreD
import Derived.Test.YtaccpnpoeikaaaaDoorCoreA
import Derived.BigRegionIn
import Derived.Deep.QuietTactic
namespace Go.Proofs.YtaccpnpoeikaaaaDoor
open Go Go.RowKit Go.Shelf
attribute [local go_sem] Oper.semAt_some

/-- The cells below n that have a kind. -/
def kindSet (f : Fd) (v : Int) : Nat → Nat → Int
  | 0 => fun _ => 0
  | n + 1 => if (isCell f n && f.K n == v) = true then putC (kindSet f v n) n else kindSet f v n
theorem kindSet_yes {f : Fd} {v : Int} {n : Nat} (h1 : isCell f n = true) (h2 : (f.K n == v) = true) : kindSet f v (n + 1) = putC (kindSet f v n) n := by
  rw [kindSet, h1, h2]; rfl
theorem kindSet_no {f : Fd} {v : Int} {n : Nat} (h : (isCell f n && f.K n == v) = false) : kindSet f v (n + 1) = kindSet f v n := by
  rw [kindSet, h]; rfl
def kindOk (f : Fd) (v : Int) : Bool := okF f && inB v 0 3
def cellsOfKind (f : Fd) (v : Int) : Nat → Int := if kindOk f v then kindSet f v 100 else fun _ => 0
def kindCode (f : Fd) (v : Int) : Int := if okF f = false then 1 else if inB v 0 3 = false then 2 else 0
theorem kindClosure_any (f : Fd) (hf : f.Wf) (v : Int) (hv1 : -9223372036854775808 ≤ v) (hv2 : v ≤ 9223372036854775807) (k : Nat) (hk : k < 100) (pb qb : Nat) (w : World) (B : Blk w pb (fcells f) 35) (hq : w.cell? ⟨qb, 0, none⟩ = some (.int .i64 v)) :
    Calls Tryd.prog 61 #[.int .i64 k, .pointer (some ⟨pb, 0, none⟩), .pointer (some ⟨qb, 0, none⟩)] w fun e w' => e = .returned (.bool (f.K k == v)) ∧ Below w.heap.size w w' := by
  have cK := B.cell (fcells_K f k hk)
  have hk1 : (k : Int) < 100 := by omega
  obtain ⟨hb1, hb2⟩ := hf.K k hk
  go_enter Tryd.func61, Tryd.ntmps61
  go_wp2_with fail
  go_region
  all_goals go_wp2_with fail
  all_goals go_ret
  all_goals exact ⟨rfl, (Below.refl _ _).drew⟩

/-- The cells of a list that have a kind. -/
def kindL {f : Fd} (v : Int) (l : List (CellOf f)) : Nat → Int := l.foldl (fun g c => if (f.K c.1 == v) = true then putC g c.1 else g) (fun _ => 0)
theorem kindL_snoc {f : Fd} (v : Int) (l : List (CellOf f)) (c : CellOf f) : kindL v (l ++ [c]) = if (f.K c.1 == v) = true then putC (kindL v l) c.1 else kindL v l := by simp only [kindL, List.foldl_append, List.foldl_cons, List.foldl_nil]
theorem kindL_to (f : Fd) (v : Int) : ∀ n, kindL v (cellsTo f n) = kindSet f v n
  | 0 => rfl
  | n + 1 => by
    have ih := kindL_to f v n
    cases h : isCell f n with
    | true =>
      rw [cellsTo_yes h, kindL_snoc, ih, kindSet, h, Bool.true_and]
    | false => rw [cellsTo_no h, ih, kindSet_no (by rw [h]; rfl)]

set_option maxRecDepth 100000 in
set_option maxHeartbeats 8000000 in
theorem cellsWhere_kind (f : Fd) (hf : f.Wf) (hok : okF f = true) (v : Int) (hv1 : -9223372036854775808 ≤ v) (hv2 : v ≤ 9223372036854775807) (pb qb : Nat) (w : World) (B : Blk w pb (fcells f) 35) (hq : w.cell? ⟨qb, 0, none⟩ = some (.int .i64 v)) :
    Calls Tryd.prog 60 #[.agg (fcells f), .func (.func 61) #[] #[.pointer (some ⟨pb, 0, none⟩), .pointer (some ⟨qb, 0, none⟩)]] w fun e w' => e = .returned (.agg (acells .u64 2 (kindSet f v 100))) ∧ Below w.heap.size w w' := by
  have hWs : inB f.W 1 10 = true := by simp only [okF, Bool.and_eq_true] at hok; exact hok.1.1
  have hHs : inB f.H 1 10 = true := by simp only [okF, Bool.and_eq_true] at hok; exact hok.1.2
  have HB := Lib.hid B
  have HQ := Lib.hid hq
  clear B hq
  have hdep : Fence.wide.depth.isSome = false := rfl
  have hfn : ∀ k, Fence.wide.fn k := fun _ => trivial
  refine (callsIn_wide (n := 3)).1 ?_
  refine callsIn_of_wp_marks Tryd.func60 rfl trivial ?_ rfl
  simp only [Tryd.ntmps60, List.size_toArray, List.length_cons, List.length_nil, Nat.reduceAdd, Nat.reduceSub, Array.replicate_succ, Array.replicate_zero, List.push_toArray, List.append_toArray, List.nil_append, List.cons_append]
  gi_upto_region 2 with (fail)
  rw [zero2]
  obtain ⟨W, hW, M⟩ := open3 w (fcells f) 35 #[.func (.func 61) #[] #[.pointer (some ⟨pb, 0, none⟩), .pointer (some ⟨qb, 0, none⟩)]] 107 (acells .u64 2 (fun _ => 0)) 32
  have M3 : Mem w (W.alloc (.cells (acells .u64 2 (fun _ => 0)) 32)) [⟨w.heap.size, fcells f, 35⟩, ⟨w.heap.size + 1, #[.func (.func 61) #[] #[.pointer (some ⟨pb, 0, none⟩), .pointer (some ⟨qb, 0, none⟩)]], 107⟩, ⟨w.heap.size + 1 + 1, acells .u64 2 (fun _ => 0), 32⟩, ⟨w.heap.size + 1 + 1 + 1, acells .u64 2 (fun _ => 0), 32⟩] := by
    have h := M.alloc (acells .u64 2 (fun _ => 0)) 32
    have hs : W.heap.size = w.heap.size + 1 + 1 + 1 := by rw [← hW]; simp
    rw [hs] at h
    exact h
  rw [hW]; clear hW M
  generalize W.alloc _ = W3 at M3 ⊢
  gi_wp2_with (first
    | (refine loadIn hfn rfl 35 _ rfl w.heap.size 0 rfl (fcells f) _ (M3.at 0 rfl).whole Tryd.underlying35 rfl (by rw [fcells_size]; exact sizeFd) ?_)
    | (gi_at_call 73; refine (callsIn_wide.2 (cellsIn_any f _)).mono ?_; rintro e w' ⟨rfl, rfl⟩))
  obtain ⟨bi, hbi⟩ : ∃ bi, bi = W3.heap.size := ⟨_, rfl⟩
  have M4 : Mem w (W3.alloc (Obj.cells (fcells f) 35)) [⟨w.heap.size, fcells f, 35⟩, ⟨w.heap.size + 1, #[.func (.func 61) #[] #[.pointer (some ⟨pb, 0, none⟩), .pointer (some ⟨qb, 0, none⟩)]], 107⟩, ⟨w.heap.size + 1 + 1, acells .u64 2 (fun _ => 0), 32⟩, ⟨w.heap.size + 1 + 1 + 1, acells .u64 2 (kindL (f := f) v []), 32⟩, ⟨bi, fcells f, 35⟩] := by rw [hbi]; exact M3.alloc (fcells f) 35
  generalize W3.alloc _ = W4 at M4 ⊢
  rw [← hbi]
  clear hbi M3
  have hsz : w.heap.size ≤ W4.heap.size := M4.below.size
  refine wpIn_rangeFunc_ownF rfl (by omega) (gf := 88) (lb := #[.pointer (some ⟨bi, 0, none⟩)]) rfl trivial (enters_of Tryd.func88 (by kernel_rfl) rfl)
    (cells_stops 2 bi f (inB_size hWs) (inB_size hHs) W4 (M4.at 4 rfl)) (fun h k => k.trans h)
    (fun W l o o' hl ho hc _ => World.putObj_heap_other (fun e => by
      have := (M4.at 4 rfl).lt
      omega))
    (Below.refl _ _) (fun _ => rfl)
    (fun pre W => Mem w W [⟨w.heap.size, fcells f, 35⟩, ⟨w.heap.size + 1, #[.func (.func 61) #[] #[.pointer (some ⟨pb, 0, none⟩), .pointer (some ⟨qb, 0, none⟩)]], 107⟩, ⟨w.heap.size + 1 + 1, acells .u64 2 (fun _ => 0), 32⟩, ⟨w.heap.size + 1 + 1 + 1, acells .u64 2 (kindL v pre), 32⟩, ⟨bi, fcells f, 35⟩])
    (fun _ _ _ => False)
    (fun s A B row hs hg hr => hs.grown hsz hg hr)
    (fun c s A B row hs hg hr => hs)
    M4
    (fun x => { tmps := #[.agg (fcells f), .func (.func 61) #[] #[.pointer (some ⟨pb, 0, none⟩), .pointer (some ⟨qb, 0, none⟩)], .pointer (some ⟨w.heap.size, 0, none⟩), .pointer (some ⟨w.heap.size + 1, 0, none⟩), .pointer (some ⟨w.heap.size + 1 + 1, 0, none⟩), .pointer (some ⟨w.heap.size + 1 + 1 + 1, 0, none⟩), .int .i64 (x.1 : Int), .agg (fcells f), .func (.func 88) #[] #[.pointer (some ⟨bi, 0, none⟩)], .int .i64 (x.1 : Int), undef, undef, undef, undef, undef, undef, undef], defers := [] }) ?assign ?body ?done ?stop
  case assign =>
    intro l x W K hK
    gi_wp2
    exact hK
  case body =>
    rintro l pre x W5 M5 _
    have hfn' : ∀ k, (Fence.wide.inRound l).fn k := fun _ => trivial
    have hdep' : (Fence.wide.inRound l).depth.isSome = false := rfl
    have hx := isCell_lt x.2
    have cf := (M5.at 1 rfl).cell (i := 0) rfl
    cases hkv : (f.K x.1 == v) with
    | false =>
      have hno : Hid (kindL v (pre ++ [x]) = kindL v pre) := Lib.hid (by rw [kindL_snoc, hkv]; rfl)
      gi_wp2_with (gi_at_call 61; refine (CallsIn.inRound l (callsIn_wide.2 (kindClosure_any f hf v hv1 hv2 x.1 hx pb qb _ (HB.out.later M5.below) (cell_later HQ.out M5.below)))).mono ?_; rintro e W6 ⟨rfl, hb6⟩; rw [hkv]; have M6 := M5.call hb6)
      exact ⟨KeepsOthers.of_below hb6, M5.same M6 4 4 rfl rfl, by show Mem w _ _; rw [hno.out]; exact M6⟩
    | true =>
      have hyes : Hid (kindL v (pre ++ [x]) = putC (kindL v pre) x.1) := Lib.hid (by rw [kindL_snoc, hkv]; rfl)
      gi_wp2_with (first
        | (gi_at_call 61; refine (CallsIn.inRound l (callsIn_wide.2 (kindClosure_any f hf v hv1 hv2 x.1 hx pb qb _ (HB.out.later M5.below) (cell_later HQ.out M5.below)))).mono ?_; rintro e W6 ⟨rfl, hb6⟩; rw [hkv]; have M6 := M5.call hb6)
        | (refine loadIn hfn' rfl 32 _ rfl (w.heap.size + 1 + 1 + 1) 0 rfl (acells .u64 2 (kindL v pre)) _ (M6.at 3 rfl).whole Tryd.underlying32 rfl (by rw [acells_size]; exact sizeC) ?_)
        | (gi_at_call 54; refine (CallsIn.inRound l (callsIn_wide.2 (withCell_any (kindL v pre) x.1 hx _))).mono ?_; rintro e W7 ⟨rfl, hb7⟩; have M7 := M6.call hb7)
        | (refine storeIn hfn' rfl 32 _ _ rfl (w.heap.size + 1 + 1 + 1) 0 (acells .u64 2 (putC (kindL v pre) x.1)) rfl rfl ((M7.at 3 rfl).there 0 _ (by rw [acells_size, acells_size]; omega)) (by rw [acells_size]; exact sizeC) (acells_one _ _ _) ?_))
      have M8 := M7.cells 3 0 (acells .u64 2 (putC (kindL v pre) x.1)).toList rfl (acells .u64 2 (putC (kindL v pre) x.1)) ((M7.at 3 rfl).over (acells .u64 2 (putC (kindL v pre) x.1)) (by simp only [acells_size]))
      exact ⟨((KeepsOthers.of_below hb6).trans (KeepsOthers.of_below hb7)).trans (keeps_setCells _ _ _ _), M5.same M8 4 4 rfl rfl, by show Mem w _ _; rw [hyes.out]; exact M8⟩
  case done =>
    rintro D xs W5 hD rfl M5 hK
    rw [kindL_to f v 100] at M5
    have M6 := M5.cells 2 0 (acells .u64 2 (kindSet f v 100)).toList rfl (acells .u64 2 (kindSet f v 100)) ((M5.at 2 rfl).over (acells .u64 2 (kindSet f v 100)) (by simp only [acells_size]))
    have hK6 : (W5.setCells (w.heap.size + 1 + 1) 0 (acells .u64 2 (kindSet f v 100)).toList).heap[D]? = some (.deferred (some [])) := by
      have hne : D ≠ w.heap.size + 1 + 1 := fun e => by
        have h := M5.at 2 rfl
        rw [e] at hK
        rw [show W5.heap[w.heap.size + 1 + 1]? = _ from h] at hK
        cases hK
      rw [look_cells_other _ _ hne]; exact hK
    gi_wp2_with (first
      | (refine loadIn hfn rfl 32 _ rfl (w.heap.size + 1 + 1 + 1) 0 rfl (acells .u64 2 (kindSet f v 100)) _ (M5.at 3 rfl).whole Tryd.underlying32 rfl (by rw [acells_size]; exact sizeC) ?_)
      | (refine storeIn hfn rfl 32 _ _ rfl (w.heap.size + 1 + 1) 0 (acells .u64 2 (kindSet f v 100)) rfl rfl ((M5.at 2 rfl).there 0 _ (by rw [acells_size, acells_size]; omega)) (by rw [acells_size]; exact sizeC) (acells_one _ _ _) ?_))
    refine ⟨by simp, .inl ⟨_, _, rfl, run_takeDeferred hK6, ?_⟩⟩
    have M7 := M6.taken (o' := .deferred none) (Nat.le_trans hsz hD) hK6 rfl
    exact ⟨_, results_cell_row rfl _ _ (w.heap.size + 1 + 1) 32 _ _ _ rfl (M7.at 2 rfl) Tryd.underlying32 rfl (by rw [acells_size]; exact sizeC), rfl, M7.below⟩
  case stop =>
    rintro D c pre W5 hD _ h hK
    exact h.elim

set_option maxRecDepth 100000 in
set_option maxHeartbeats 4000000 in
theorem implCellsOfKind (f : Fd) (hf : f.Wf) (v : Int) (hv1 : -9223372036854775808 ≤ v) (hv2 : v ≤ 9223372036854775807) (A : Nat → Addr) (w : World) (S0 : Sents w A) : Calls Tryd.prog 35 #[.agg (fcells f), .int .i64 v] w fun e w' => e = .returned (.tuple #[.agg (acells .u64 2 (cellsOfKind f v)), .int .i64 (kindCode f v)]) ∧ Below w.heap.size w w' := by
  have S : Hid (Sents w A) := Lib.hid S0
  clear S0
  have hif := isIfaceErr
  cases hok : okF f with
  | false =>
    have hr1 : cellsOfKind f v = fun _ => 0 := by simp [cellsOfKind, kindOk, hok]
    have hr2 : kindCode f v = 1 := by simp [kindCode, hok]
    rw [hr1, hr2]
    go_enter Tryd.func35, Tryd.ntmps35
    go_upto_region 1 with (fail)
    rw [zero2]
    obtain ⟨W, hW, M⟩ := open3 w (fcells f) 35 #[.int .i64 v] 2 (acells .u64 2 (fun _ => 0)) 32
    rw [hW]; clear hW
    go_wp2_with (first
      | (refine wpList_load_part rfl 35 _ rfl (w.heap.size) 0 rfl (fcells f) _ (M.at 0 rfl).whole Tryd.underlying35 rfl (by rw [fcells_size]; exact sizeFd) ?_)
      | (refine wpList_buildRow rfl 128 35 _ rfl (fcells f) rfl Tryd.underlying128 (by rw [fcells_size]; exact sizeFd) (by rw [fcells_size]; kernel_rfl) (by rw [fcells_size]; omega) (by rw [fcells_size]; omega) ?_)
      | (go_at_call 58; refine (checkFields1 f hf A _ _ _ (Blk.new _ _ _) (S.out.later (M.alloc _ _).below)).mono ?_; rintro e W2 ⟨rfl, hb⟩; rw [hok, errIf_false]; have M2 := (M.alloc _ _).call hb; clear hb)
      | (go_at_call 29; refine (codeOf_err A 1 (by omega) (by omega) _ (S.out.later M2.below)).mono ?_; rintro e W3 ⟨rfl, rfl⟩)
      | (refine wpList_store_row rfl 32 _ _ rfl (w.heap.size + 1 + 1) (acells .u64 2 (fun _ => 0)) rfl rfl 32 _ (M2.at 2 rfl) (by rw [acells_size]; exact sizeC) (by simp only [acells_size]) (acells_one _ _ _) ?_))
    have M4 := M2.row 2 rfl (acells .u64 2 (fun _ => 0))
    exact bodyPost_ret (results_row_tmp rfl _ _ (w.heap.size + 1 + 1) 32 _ _ _ rfl (M4.at 2 rfl) Tryd.underlying32 rfl (by rw [acells_size]; exact sizeC)) rfl ⟨rfl, M4.below⟩
  | true =>
    cases hk : inB v 0 3 with
    | false =>
      have hr1 : cellsOfKind f v = fun _ => 0 := by simp [cellsOfKind, kindOk, hk]
      have hr2 : kindCode f v = 2 := by simp [kindCode, hok, hk]
      rw [hr1, hr2]
      go_enter Tryd.func35, Tryd.ntmps35
      go_upto_region 1 with (fail)
      rw [zero2]
      obtain ⟨W, hW, M⟩ := open3 w (fcells f) 35 #[.int .i64 v] 2 (acells .u64 2 (fun _ => 0)) 32
      rw [hW]; clear hW
      go_wp2_with (first
        | (refine wpList_load_part rfl 35 _ rfl (w.heap.size) 0 rfl (fcells f) _ (M.at 0 rfl).whole Tryd.underlying35 rfl (by rw [fcells_size]; exact sizeFd) ?_)
        | (refine wpList_buildRow rfl 128 35 _ rfl (fcells f) rfl Tryd.underlying128 (by rw [fcells_size]; exact sizeFd) (by rw [fcells_size]; kernel_rfl) (by rw [fcells_size]; omega) (by rw [fcells_size]; omega) ?_)
        | (go_at_call 58; refine (checkFields1 f hf A _ _ _ (Blk.new _ _ _) (S.out.later (M.alloc _ _).below)).mono ?_; rintro e W2 ⟨rfl, hb⟩; rw [hok, errIf_true]; have M2 := (M.alloc _ _).call hb; clear hb; have hv2 := (S.out.later M2.below).v2; have cv := (M2.at 1 rfl).cell (i := 0) rfl)
        | (go_at_call 59; refine (isKind_any _ _).mono ?_; rintro e w' ⟨rfl, rfl⟩; rw [hk])
        | (go_at_call 29; refine (codeOf_err A 2 (by omega) (by omega) _ (S.out.later M2.below)).mono ?_; rintro e W3 ⟨rfl, rfl⟩)
        | (refine wpList_store_row rfl 32 _ _ rfl (w.heap.size + 1 + 1) (acells .u64 2 (fun _ => 0)) rfl rfl 32 _ (M2.at 2 rfl) (by rw [acells_size]; exact sizeC) (by simp only [acells_size]) (acells_one _ _ _) ?_))
      have M4 := M2.row 2 rfl (acells .u64 2 (fun _ => 0))
      exact bodyPost_ret (results_row_tmp rfl _ _ (w.heap.size + 1 + 1) 32 _ _ _ rfl (M4.at 2 rfl) Tryd.underlying32 rfl (by rw [acells_size]; exact sizeC)) rfl ⟨rfl, M4.below⟩
    | true =>
      have hr1 : cellsOfKind f v = kindSet f v 100 := by simp [cellsOfKind, kindOk, hok, hk]
      have hr2 : kindCode f v = 0 := by simp [kindCode, hok, hk]
      rw [hr1, hr2]
      go_enter Tryd.func35, Tryd.ntmps35
      go_upto_region 1 with (fail)
      rw [zero2]
      obtain ⟨W, hW, M⟩ := open3 w (fcells f) 35 #[.int .i64 v] 2 (acells .u64 2 (fun _ => 0)) 32
      rw [hW]; clear hW
      go_wp2_with (first
        | (refine wpList_load_part rfl 35 _ rfl (w.heap.size) 0 rfl (fcells f) _ (M.at 0 rfl).whole Tryd.underlying35 rfl (by rw [fcells_size]; exact sizeFd) ?_)
        | (refine wpList_buildRow rfl 128 35 _ rfl (fcells f) rfl Tryd.underlying128 (by rw [fcells_size]; exact sizeFd) (by rw [fcells_size]; kernel_rfl) (by rw [fcells_size]; omega) (by rw [fcells_size]; omega) ?_)
        | (go_at_call 58; refine (checkFields1 f hf A _ _ _ (Blk.new _ _ _) (S.out.later (M.alloc _ _).below)).mono ?_; rintro e W2 ⟨rfl, hb⟩; rw [hok, errIf_true]; have M2 := (M.alloc _ _).call hb; clear hb; have cv := (M2.at 1 rfl).cell (i := 0) rfl)
        | (go_at_call 59; refine (isKind_any _ _).mono ?_; rintro e w' ⟨rfl, rfl⟩; rw [hk])
        | (refine wpList_load_part rfl 35 _ rfl (w.heap.size) 0 rfl (fcells f) _ (M2.at 0 rfl).whole Tryd.underlying35 rfl (by rw [fcells_size]; exact sizeFd) ?_)
        | (go_at_call 60; refine (cellsWhere_kind f hf hok v hv1 hv2 _ _ _ (M2.at 0 rfl) ((M2.at 1 rfl).cell (i := 0) rfl)).mono ?_; rintro e W5 ⟨rfl, hb5⟩; have M5 := M2.call hb5)
        | (refine wpList_store_row rfl 32 _ _ rfl (w.heap.size + 1 + 1) (acells .u64 2 (kindSet f v 100)) rfl rfl 32 _ (M5.at 2 rfl) (by rw [acells_size]; exact sizeC) (by simp only [acells_size]) (acells_one _ _ _) ?_))
      have M6 := M5.row 2 rfl (acells .u64 2 (kindSet f v 100))
      exact bodyPost_ret (results_row_tmp rfl _ _ (w.heap.size + 1 + 1) 32 _ _ _ rfl (M6.at 2 rfl) Tryd.underlying32 rfl (by rw [acells_size]; exact sizeC)) rfl ⟨rfl, M6.below⟩
end Go.Proofs.YtaccpnpoeikaaaaDoor
