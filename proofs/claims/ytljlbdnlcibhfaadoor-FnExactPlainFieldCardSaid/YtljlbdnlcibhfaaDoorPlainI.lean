/-
  PlainField, the program's way.
-/
import Derived.Test.YtljlbdnlcibhfaaDoorPlain
namespace Go.Proofs.YtljlbdnlcibhfaaDoor
open Go Go.RowKit Go.Shelf
attribute [local go_sem] Oper.semAt_some

/-- Some cells filled. -/
def filled (a b s : Int) (l : List (CellOf (Fd.bare a b))) : Fd := l.foldl (fun g c => g.setS c.1 s) (Fd.bare a b)
theorem filled_snoc (a b s : Int) (l : List (CellOf (Fd.bare a b))) (c : CellOf (Fd.bare a b)) : filled a b s (l ++ [c]) = (filled a b s l).setS c.1 s := by simp [filled, List.foldl_append]
theorem filled_to (a b s : Int) : ∀ n, fcells (filled a b s (cellsTo (Fd.bare a b) n)) = fcells (plainTo a b s n)
  | 0 => plainTo_zero a b s
  | n + 1 => by
    have ih := fcells_inj (filled_to a b s n)
    cases h : isCell (Fd.bare a b) n with
    | true =>
      rw [cellsTo_yes h, filled_snoc, ← plainTo_yes h]
      exact fcells_congr ih.1 ih.2.1 ih.2.2.1 (fun i hi => by
        simp only [Fd.setS]
        by_cases e : i = n
        · subst e; simp
        · rw [if_neg e, if_neg e, ih.2.2.2 i hi])
    | false => rw [cellsTo_no h, ← plainTo_no h]; exact filled_to a b s n

set_option maxRecDepth 100000 in
set_option maxHeartbeats 2000000 in
theorem implPlainField_bad (a b s : Int) (ha1 : -9223372036854775808 ≤ a) (ha2 : a ≤ 9223372036854775807) (hb1 : -9223372036854775808 ≤ b) (hb2 : b ≤ 9223372036854775807) (hs1 : -9223372036854775808 ≤ s) (hs2 : s ≤ 9223372036854775807) (A : Nat → Addr) (hr : plainOk3 a b s = false) (w : World) (S0 : Sents w A) : Calls Tryd.prog 10 #[.int .i64 a, .int .i64 b, .int .i64 s] w fun e w' => e = .returned (.tuple #[.agg (fcells Fd.zero), .int .i64 2]) ∧ Below w.heap.size w w' := by
  have S : Hid (Sents w A) := Lib.hid S0
  clear S0
  have hz : Hid (Tryd.zeroCells27.size = 202) := Lib.hid (by rw [zeroFd, fcells_size])
  have hz1 : Hid (Tryd.zeroCells27.all (·.oneCell') = true) := Lib.hid (by rw [zeroFd]; exact fcells_one _)
  have ok1 : True := trivial
  have ok2 : True := trivial
  cases q1 : inB a 1 10 with
  | false =>
    go_enter Tryd.func10, Tryd.ntmps10
    go_upto_region 1 with (fail)
    obtain ⟨W, hW, M⟩ := open2 w #[.int .i64 s] 2 Tryd.zeroCells27 27
    rw [hW]; clear hW
    have hv2 := (S.out.later M.below).v2
    have cs := (M.at 0 rfl).cell (i := 0) rfl
    go_wp2_with (first
      | (clear ok1; go_at_call 29; refine (isSize_any a _).mono ?_; rintro e w' ⟨rfl, rfl⟩; rw [q1])
      | (go_at_call 31; refine (codeOf_err A 2 (by omega) (by omega) _ (S.out.later M.below)).mono ?_; rintro e W3 ⟨rfl, rfl⟩)
      | (refine wpList_store_row rfl 27 _ _ rfl (w.heap.size + 1) Tryd.zeroCells27 rfl rfl 27 _ (M.at 1 rfl) (by rw [hz.out]; exact sizeFd) (by rw [hz.out]) hz1.out ?_))
    have M4 := M.row 1 rfl Tryd.zeroCells27
    exact bodyPost_ret (results_row_tmp rfl _ _ (w.heap.size + 1) 27 _ _ _ rfl (M4.at 1 rfl) Tryd.underlying27 rfl (by rw [hz.out]; exact sizeFd)) rfl ⟨by rw [zeroFd]; rfl, M4.below⟩
  | true =>
    cases q2 : inB b 1 10 with
    | false =>
      go_enter Tryd.func10, Tryd.ntmps10
      go_upto_region 1 with (fail)
      obtain ⟨W, hW, M⟩ := open2 w #[.int .i64 s] 2 Tryd.zeroCells27 27
      rw [hW]; clear hW
      have hv2 := (S.out.later M.below).v2
      have cs := (M.at 0 rfl).cell (i := 0) rfl
      go_wp2_with (first
        | (clear ok1; go_at_call 29; refine (isSize_any a _).mono ?_; rintro e w' ⟨rfl, rfl⟩; rw [q1])
        | (clear ok2; go_at_call 29; refine (isSize_any b _).mono ?_; rintro e w' ⟨rfl, rfl⟩; rw [q2])
        | (go_at_call 31; refine (codeOf_err A 2 (by omega) (by omega) _ (S.out.later M.below)).mono ?_; rintro e W3 ⟨rfl, rfl⟩)
        | (refine wpList_store_row rfl 27 _ _ rfl (w.heap.size + 1) Tryd.zeroCells27 rfl rfl 27 _ (M.at 1 rfl) (by rw [hz.out]; exact sizeFd) (by rw [hz.out]) hz1.out ?_))
      have M4 := M.row 1 rfl Tryd.zeroCells27
      exact bodyPost_ret (results_row_tmp rfl _ _ (w.heap.size + 1) 27 _ _ _ rfl (M4.at 1 rfl) Tryd.underlying27 rfl (by rw [hz.out]; exact sizeFd)) rfl ⟨by rw [zeroFd]; rfl, M4.below⟩
    | true =>
      have q3 : inB s 0 1000 = false := by simpa [plainOk3, q1, q2] using hr
      go_enter Tryd.func10, Tryd.ntmps10
      go_upto_region 1 with (fail)
      obtain ⟨W, hW, M⟩ := open2 w #[.int .i64 s] 2 Tryd.zeroCells27 27
      rw [hW]; clear hW
      have hv2 := (S.out.later M.below).v2
      have cs := (M.at 0 rfl).cell (i := 0) rfl
      go_wp2_with (first
        | (clear ok1; go_at_call 29; refine (isSize_any a _).mono ?_; rintro e w' ⟨rfl, rfl⟩; rw [q1])
        | (clear ok2; go_at_call 29; refine (isSize_any b _).mono ?_; rintro e w' ⟨rfl, rfl⟩; rw [q2])
        | (go_at_call 30; refine (isSeeds_any s _).mono ?_; rintro e w' ⟨rfl, rfl⟩; rw [q3])
        | (go_at_call 31; refine (codeOf_err A 2 (by omega) (by omega) _ (S.out.later M.below)).mono ?_; rintro e W3 ⟨rfl, rfl⟩)
        | (refine wpList_store_row rfl 27 _ _ rfl (w.heap.size + 1) Tryd.zeroCells27 rfl rfl 27 _ (M.at 1 rfl) (by rw [hz.out]; exact sizeFd) (by rw [hz.out]) hz1.out ?_))
      have M4 := M.row 1 rfl Tryd.zeroCells27
      exact bodyPost_ret (results_row_tmp rfl _ _ (w.heap.size + 1) 27 _ _ _ rfl (M4.at 1 rfl) Tryd.underlying27 rfl (by rw [hz.out]; exact sizeFd)) rfl ⟨by rw [zeroFd]; rfl, M4.below⟩
set_option maxRecDepth 100000 in
set_option maxHeartbeats 8000000 in
theorem implPlainField_ok (a b s : Int) (ha1 : -9223372036854775808 ≤ a) (ha2 : a ≤ 9223372036854775807) (hb1 : -9223372036854775808 ≤ b) (hb2 : b ≤ 9223372036854775807) (hs1 : -9223372036854775808 ≤ s) (hs2 : s ≤ 9223372036854775807) (hr : plainOk3 a b s = true) (w : World) : Calls Tryd.prog 10 #[.int .i64 a, .int .i64 b, .int .i64 s] w fun e w' => e = .returned (.tuple #[.agg (fcells (plainTo a b s 100)), .int .i64 0]) ∧ Below w.heap.size w w' := by
  have hz : Hid (Tryd.zeroCells27.size = 202) := Lib.hid (by rw [zeroFd, fcells_size])
  have ok1 : True := trivial
  have ok2 : True := trivial
  have hq : inB a 1 10 = true ∧ inB b 1 10 = true ∧ inB s 0 1000 = true := by
    simp only [plainOk3, Bool.and_eq_true] at hr; exact ⟨hr.1.1, hr.1.2, hr.2⟩
  obtain ⟨q1, q2, q3⟩ := hq
  obtain ⟨h1, h2⟩ := inB_iff.1 q1
  obtain ⟨h3, h4⟩ := inB_iff.1 q2
  obtain ⟨h5, h6⟩ := inB_iff.1 q3
  have hdep : Fence.wide.depth.isSome = false := rfl
  have hfn : ∀ k, Fence.wide.fn k := fun _ => trivial
  refine (callsIn_wide (n := 3)).1 ?_
  refine callsIn_of_wp_marks Tryd.func10 rfl trivial ?_ rfl
  simp only [Tryd.ntmps10, List.size_toArray, List.length_cons, List.length_nil, Nat.reduceAdd, Nat.reduceSub, Array.replicate_succ, Array.replicate_zero, List.push_toArray, List.append_toArray, List.nil_append, List.cons_append]
  gi_upto_region 1 with (fail)
  obtain ⟨W, hW, M⟩ := open2 w #[.int .i64 s] 2 Tryd.zeroCells27 27
  rw [hW]; clear hW
  have cs := (M.at 0 rfl).cell (i := 0) rfl
  refine wpIn_wide.2 ?_
  go_wp2_with (first
    | (clear ok1; go_at_call 29; refine (isSize_any a _).mono ?_; rintro e w' ⟨rfl, rfl⟩; rw [q1])
    | (clear ok2; go_at_call 29; refine (isSize_any b _).mono ?_; rintro e w' ⟨rfl, rfl⟩; rw [q2])
    | (go_at_call 30; refine (isSeeds_any s _).mono ?_; rintro e w' ⟨rfl, rfl⟩; rw [q3]))
  clear cs
  gi_upto_region 4 with (first
    | (refine buildIn hfn rfl 27 _ rfl #[(0, .int .i8 a), (1, .int .i8 b)] rfl (.agg (fcells (Fd.bare a b))) (by kernel_rfl) ?_)
    | (refine storeIn hfn rfl 27 _ _ rfl W.heap.size 0 (fcells (Fd.bare a b)) rfl rfl (((M.alloc Tryd.zeroCells27 27).at 2 rfl).there 0 _ (by rw [fcells_size, hz.out]; omega)) (by rw [fcells_size]; exact sizeFd) (fcells_one _) ?_))
  obtain ⟨ob, hob⟩ : ∃ ob, ob = W.heap.size := ⟨_, rfl⟩
  have M3 : Mem w _ [⟨w.heap.size, #[.int .i64 s], 2⟩, ⟨w.heap.size + 1, Tryd.zeroCells27, 27⟩, ⟨W.heap.size, fcells (Fd.bare a b), 27⟩] := (M.alloc Tryd.zeroCells27 27).cells 2 0 (fcells (Fd.bare a b)).toList rfl (fcells (Fd.bare a b)) (((M.alloc Tryd.zeroCells27 27).at 2 rfl).over (fcells (Fd.bare a b)) (by rw [fcells_size, hz.out]))
  rw [← hob] at M3 ⊢
  clear hob M
  generalize World.setCells _ _ _ _ = W3 at M3 ⊢
  gi_wp2_with (first
    | (refine loadIn hfn rfl 27 _ rfl ob 0 rfl (fcells (Fd.bare a b)) _ (M3.at 2 rfl).whole Tryd.underlying27 rfl (by rw [fcells_size]; exact sizeFd) ?_)
    | (gi_at_call 32; refine (callsIn_wide.2 (cellsIn_any (Fd.bare a b) _)).mono ?_; rintro e w' ⟨rfl, rfl⟩))
  obtain ⟨bi, hbi⟩ : ∃ bi, bi = W3.heap.size := ⟨_, rfl⟩
  have M4 : Mem w (W3.alloc (Obj.cells (fcells (Fd.bare a b)) 27)) [⟨w.heap.size, #[.int .i64 s], 2⟩, ⟨w.heap.size + 1, Tryd.zeroCells27, 27⟩, ⟨ob, fcells (Fd.bare a b), 27⟩, ⟨bi, fcells (Fd.bare a b), 27⟩] := by rw [hbi]; exact M3.alloc (fcells (Fd.bare a b)) 27
  generalize W3.alloc _ = W4 at M4 ⊢
  rw [← hbi]
  clear hbi M3
  have hsz : w.heap.size ≤ W4.heap.size := M4.below.size
  have hf8 : (0 ≤ (Fd.bare a b).W ∧ (Fd.bare a b).W ≤ 10) ∧ (0 ≤ (Fd.bare a b).H ∧ (Fd.bare a b).H ≤ 10) := ⟨⟨by show 0 ≤ a; omega, by show a ≤ 10; omega⟩, ⟨by show 0 ≤ b; omega, by show b ≤ 10; omega⟩⟩
  have hsp : Hid (-32768 ≤ s ∧ s ≤ 32767) := Lib.hid ⟨by omega, by omega⟩
  refine wpIn_rangeFunc_ownF rfl (by omega) (gf := 57) (lb := #[.pointer (some ⟨bi, 0, none⟩)]) rfl trivial (enters_of Tryd.func57 (by kernel_rfl) rfl)
    (cells_stops 2 bi (Fd.bare a b) hf8.1 hf8.2 W4 (M4.at 3 rfl)) (fun h k => k.trans h)
    (fun W l o o' hl ho hc _ => World.putObj_heap_other (fun e => by
      have := (M4.at 3 rfl).lt
      omega))
    (Below.refl _ _) (fun _ => rfl)
    (fun pre W => Mem w W [⟨w.heap.size, #[.int .i64 s], 2⟩, ⟨w.heap.size + 1, Tryd.zeroCells27, 27⟩, ⟨ob, fcells (filled a b s pre), 27⟩, ⟨bi, fcells (Fd.bare a b), 27⟩])
    (fun _ _ _ => False)
    (fun s A B row hs hg hr => hs.grown hsz hg hr)
    (fun c s A B row hs hg hr => hs)
    M4
    (fun x => { tmps := #[.int .i64 a, .int .i64 b, .int .i64 s, undef, undef, .pointer (some ⟨w.heap.size, 0, none⟩), .pointer (some ⟨w.heap.size + 1, 0, none⟩), .int .i64 0, .pointer (some ⟨ob, 0, none⟩), .int .i64 (x.1 : Int), .int .i64 a, .bool true, .bool false, .bool false, .int .i64 b, .bool true, .bool false, .bool false, .bool false, .int .i64 s, .bool true, .bool false, .bool false, undef, undef, undef, .int .i64 a, .int .i8 a, .int .i64 b, .int .i8 b, .agg ((Tryd.zeroCells27.setIfInBounds 0 (.int .i8 a)).setIfInBounds 1 (.int .i8 b)), .agg (fcells (Fd.bare a b)), .func (.func 57) #[] #[.pointer (some ⟨bi, 0, none⟩)], .int .i64 (x.1 : Int), undef, undef, undef, undef, undef, undef], defers := [] }) ?assign ?body ?done ?stop
  case assign =>
    intro l x W K hK
    gi_wp2
    exact hK
  case body =>
    rintro l pre x W5 M5 _
    have hfn' : ∀ k, (Fence.wide.inRound l).fn k := fun _ => trivial
    have hdep' : (Fence.wide.inRound l).depth.isSome = false := rfl
    have hx := isCell_lt x.2
    have hx1 : (x.1 : Int) < 100 := by omega
    obtain ⟨hg1, hg2⟩ := hsp.out
    have cs := (M5.at 0 rfl).cell (i := 0) rfl
    have cS := (M5.at 2 rfl).cell (fcells_S (filled a b s pre) x.1 hx)
    have eS := (M5.at 2 rfl).free (102 + x.1)
    have M8' := M5.set 2 (102 + x.1) (.int .i16 s) rfl _ (fcells_setS (filled a b s pre) x.1 s hx)
    rw [← filled_snoc] at M8'
    have M8 := Lib.hid M8'
    clear M8'
    gi_wp2
    exact ⟨KeepsOthers.setCell _ _ _, M5.same M8.out 3 3 rfl rfl, M8.out⟩
  case done =>
    rintro D xs W5 hD rfl M5 hK
    rw [filled_to a b s 100] at M5
    have M6 := M5.cells 1 0 (fcells (plainTo a b s 100)).toList rfl (fcells (plainTo a b s 100)) ((M5.at 1 rfl).over (fcells (plainTo a b s 100)) (by rw [fcells_size, hz.out]))
    have hK6 : (W5.setCells (w.heap.size + 1) 0 (fcells (plainTo a b s 100)).toList).heap[D]? = some (.deferred (some [])) := by
      have hne : D ≠ w.heap.size + 1 := fun e => by
        have h := M5.at 1 rfl
        rw [e] at hK
        rw [show W5.heap[w.heap.size + 1]? = _ from h] at hK
        cases hK
      rw [look_cells_other _ _ hne]; exact hK
    gi_wp2_with (first
      | (refine loadIn hfn rfl 27 _ rfl ob 0 rfl (fcells (plainTo a b s 100)) _ (M5.at 2 rfl).whole Tryd.underlying27 rfl (by rw [fcells_size]; exact sizeFd) ?_)
      | (refine storeIn hfn rfl 27 _ _ rfl (w.heap.size + 1) 0 (fcells (plainTo a b s 100)) rfl rfl ((M5.at 1 rfl).there 0 _ (by rw [fcells_size, hz.out]; omega)) (by rw [fcells_size]; exact sizeFd) (fcells_one _) ?_))
    refine ⟨by simp, .inl ⟨_, _, rfl, run_takeDeferred hK6, ?_⟩⟩
    have M7 := M6.taken (o' := .deferred none) (Nat.le_trans hsz hD) hK6 rfl
    exact ⟨_, results_row_tmp rfl _ _ (w.heap.size + 1) 27 _ _ _ rfl (M7.at 1 rfl) Tryd.underlying27 rfl (by rw [fcells_size]; exact sizeFd), rfl, M7.below⟩
  case stop =>
    rintro D c pre W5 hD _ h hK
    exact h.elim
theorem implPlainField (a b s : Int) (ha1 : -9223372036854775808 ≤ a) (ha2 : a ≤ 9223372036854775807) (hb1 : -9223372036854775808 ≤ b) (hb2 : b ≤ 9223372036854775807) (hs1 : -9223372036854775808 ≤ s) (hs2 : s ≤ 9223372036854775807) (A : Nat → Addr) (w : World) (S0 : Sents w A) : Calls Tryd.prog 10 #[.int .i64 a, .int .i64 b, .int .i64 s] w fun e w' => e = .returned (.tuple #[.agg (fcells (plainField a b s)), .int .i64 (plainCode a b s)]) ∧ Below w.heap.size w w' := by
  unfold plainField plainCode
  cases hr : plainOk3 a b s with
  | false => simpa using implPlainField_bad a b s ha1 ha2 hb1 hb2 hs1 hs2 A hr w S0
  | true => simpa using implPlainField_ok a b s ha1 ha2 hb1 hb2 hs1 hs2 hr w
end Go.Proofs.YtljlbdnlcibhfaaDoor
