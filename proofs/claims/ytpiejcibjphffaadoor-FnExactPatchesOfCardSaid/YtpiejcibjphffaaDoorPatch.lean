/-
  PatchesOf: the model's, the program's.
-/
import Derived.Test.YtpiejcibjphffaaDoorOwn
import Derived.Test.YtpiejcibjphffaaDoorWhere
import Derived.Test.YtpiejcibjphffaaDoorSets
import Derived.Test.YtpiejcibjphffaaDoorRow
import Derived.Test.YtpiejcibjphffaaDoorChk2
namespace Go.Proofs.YtpiejcibjphffaaDoor
open Go Go.RowKit Go.Shelf

theorem load_p64 (b off : Nat) (n : Int) (w : World) (c : w.cell? ⟨b, off, none⟩ = some (.int .i64 n)) : (Instr.loadAt 2 (.pointer (some ⟨b, off, none⟩))).run Tryd.prog w = .ok (.int .i64 n) w := by
  simp [go_sem, c]
theorem open4p (w : World) (c1 : Array Value) (t1 : TypeId) (c2 : Array Value) (t2 : TypeId) (c3 : Array Value) (t3 : TypeId) (c4 : Array Value) (t4 : TypeId) :
    ∃ W, (((w.alloc (.cells c1 t1)).alloc (.cells c2 t2)).alloc (.cells c3 t3)).alloc (.cells c4 t4) = W ∧ Mem w W [⟨w.heap.size, c1, t1⟩, ⟨w.heap.size + 1, c2, t2⟩, ⟨w.heap.size + 1 + 1, c3, t3⟩, ⟨w.heap.size + 1 + 1 + 1, c4, t4⟩] := by
  have h := ((((Mem.nil w).alloc c1 t1).alloc c2 t2).alloc c3 t3).alloc c4 t4
  simp only [World.size_alloc, List.nil_append, List.cons_append] at h
  exact ⟨_, rfl, h⟩
def patchQ (o : Nat → Int) (x : Int) (k : Nat) : Bool := o k == x
def patchCode (f : Fd) (o : Nat → Int) (x : Int) : Int := if ownB f o = false then 1 else if inB x 0 9 = false then 2 else 0
def patchSet (f : Fd) (o : Nat → Int) (x : Int) : Nat → Int := if patchCode f o x = 0 then wantSet f (patchQ o x) 100 else fun _ => 0
theorem patch_cell {f : Fd} {o : Nat → Int} {x : Int} (h : ownB f o = true) (hx : inB x 0 9 = true) {k : Nat} (hk : k < 100) (hq : patchQ o x k = true) : isCell f k = true := by
  simp only [ownB, Bool.and_eq_true] at h
  have h1 := allTo_iff.1 h.2 k hk
  cases hc : isCell f k with
  | true => rfl
  | false =>
    simp only [ownOk, hc, Bool.false_eq_true, if_false, beq_iff_eq] at h1
    simp only [patchQ, beq_iff_eq] at hq
    have := (inB_iff.1 hx).1
    omega
theorem bZeroC2 (w : World) : (Instr.build 38 #[]).run Tryd.prog w = .ok (.agg #[.int .u64 0, .int .u64 0]) w := by kernel_rfl
theorem wpList_build0P {P : Program} {ops : Array Oper} {rest : List Oper} {op : Oper} {a : Act} {w : World} {Q : Exit → Act → World → Prop} (hgd : op.guard = none) (t : TypeId) (ho : op.op = .build t #[]) (v : Value) (hr : (Instr.build t #[]).run P w = .ok v w)
    (h : wpList P ops Q rest (a.put op.dst v) w) : wpList P ops Q (op :: rest) a w := by
  refine wpList_run hgd ?_ h
  unfold execOp
  simp only [ho, List.map_toArray, List.map_nil, Sem.run_bind, hr, Result.andThen_ok, Sem.run_pure]
set_option maxRecDepth 100000 in
set_option maxHeartbeats 8000000 in
theorem specPatchesOf (f : Fd) (hf : f.Wf) (o : Nat → Int) (hw : ∀ i, i < 100 → (Lit.int .i8 (o i)).wf = true) (x : Int) (w : World) : Calls Tryd.prog 19 #[.agg (fcells f), .agg (acells .i8 100 o), .int .i64 x] w fun e w' => e = .returned (.tuple #[.agg (acells .u64 2 (patchSet f o x)), .int .i64 (patchCode f o x)]) ∧ Below w.heap.size w w' := by
  have ho := wfO_of hw
  have HO := Lib.hid ho
  clear hw ho
  cases h1 : ownB f o with
  | false =>
    have hc : patchCode f o x = 1 := by unfold patchCode; rw [if_pos h1]
    unfold patchSet
    rw [hc, if_neg (by decide)]
    clear hc
    go_enter Tryd.func19, Tryd.ntmps19
    go_upto_region 1 with (fail)
    rw [zero2]
    obtain ⟨W, hW, M⟩ := open3 w (fcells f) 30 (acells .i8 100 o) 44 (acells .u64 2 (fun _ => 0)) 38
    rw [hW]; clear hW
    go_wp2_with (first
      | (go_at_call 45; refine (l06Owners_any f hf o HO.out _ _ _ (M.at 0 rfl) (M.at 1 rfl)).mono ?_; rintro e w' ⟨rfl, rfl⟩; rw [h1])
      | (refine wpList_build0P rfl 38 rfl _ (bZeroC2 _) ?_; rw [zero2])
      | (refine wpList_store_row rfl 38 _ _ rfl (w.heap.size + 1 + 1) (acells .u64 2 (fun _ => 0)) rfl rfl 38 _ (M.at 2 rfl) (by rw [acells_size]; exact sizeC) (by simp only [acells_size]) (acells_one _ _ _) ?_))
    have M4 := M.row 2 rfl (acells .u64 2 (fun _ => 0))
    exact bodyPost_ret (results_row_tmp rfl _ _ (w.heap.size + 1 + 1) 38 _ _ _ rfl (M4.at 2 rfl) Tryd.underlying38 rfl (by rw [acells_size]; exact sizeC)) rfl ⟨rfl, M4.below⟩
  | true =>
  cases h2 : inB x 0 9 with
  | false =>
    have hc : patchCode f o x = 2 := by unfold patchCode; rw [if_neg (by rw [h1]; decide), if_pos h2]
    unfold patchSet
    rw [hc, if_neg (by decide)]
    clear hc
    go_enter Tryd.func19, Tryd.ntmps19
    go_upto_region 1 with (fail)
    rw [zero2]
    obtain ⟨W, hW, M⟩ := open3 w (fcells f) 30 (acells .i8 100 o) 44 (acells .u64 2 (fun _ => 0)) 38
    rw [hW]; clear hW
    go_wp2_with (first
      | (go_at_call 45; refine (l06Owners_any f hf o HO.out _ _ _ (M.at 0 rfl) (M.at 1 rfl)).mono ?_; rintro e w' ⟨rfl, rfl⟩; rw [h1])
      | (go_at_call 46; refine (l00In_any _ _ _ _).mono ?_; rintro e w' ⟨rfl, rfl⟩; rw [h2])
      | (refine wpList_build0P rfl 38 rfl _ (bZeroC2 _) ?_; rw [zero2])
      | (refine wpList_store_row rfl 38 _ _ rfl (w.heap.size + 1 + 1) (acells .u64 2 (fun _ => 0)) rfl rfl 38 _ (M.at 2 rfl) (by rw [acells_size]; exact sizeC) (by simp only [acells_size]) (acells_one _ _ _) ?_))
    have M4 := M.row 2 rfl (acells .u64 2 (fun _ => 0))
    exact bodyPost_ret (results_row_tmp rfl _ _ (w.heap.size + 1 + 1) 38 _ _ _ rfl (M4.at 2 rfl) Tryd.underlying38 rfl (by rw [acells_size]; exact sizeC)) rfl ⟨rfl, M4.below⟩
  | true =>
    have hc : patchCode f o x = 0 := by unfold patchCode; rw [if_neg (by rw [h1]; decide), if_neg (by rw [h2]; decide)]
    unfold patchSet
    rw [if_pos hc, hc]
    clear hc
    have H1 := Lib.hid h1
    have H2 := Lib.hid h2
    obtain ⟨G, hG⟩ : ∃ G, wantSet f (patchQ o x) 100 = G := ⟨_, rfl⟩
    rw [hG]
    have HGG := Lib.hid hG
    clear hG
    go_enter Tryd.func19, Tryd.ntmps19
    go_upto_region 1 with (fail)
    rw [zero2]
    obtain ⟨W, hW, M⟩ := open3 w (fcells f) 30 (acells .i8 100 o) 44 (acells .u64 2 (fun _ => 0)) 38
    rw [hW]; clear hW
    go_upto_region 6 with (first
      | (go_at_call 45; refine (l06Owners_any f hf o HO.out _ _ _ (M.at 0 rfl) (M.at 1 rfl)).mono ?_; rintro e w' ⟨rfl, rfl⟩; rw [h1])
      | (go_at_call 46; refine (l00In_any _ _ _ _).mono ?_; rintro e w' ⟨rfl, rfl⟩; rw [h2]))
    rw [zero2]
    have M3 := M.alloc (acells .u64 2 (fun _ => 0)) 38
    obtain ⟨bo, hbo⟩ : ∃ bo, bo = W.heap.size := ⟨_, rfl⟩
    rw [← hbo] at M3 ⊢
    generalize W.alloc _ = W3 at M3 ⊢
    clear hbo M h1 h2
    have M0 : Mem w W3 [⟨w.heap.size, fcells f, 30⟩, ⟨w.heap.size + 1, acells .i8 100 o, 44⟩, ⟨w.heap.size + 1 + 1, acells .u64 2 (fun _ => 0), 38⟩, ⟨bo, acells .u64 2 (wantSet f (patchQ o x) 0), 38⟩] := M3
    clear M3
    go_wp2_with fail
    go_loopw [9] (fun i wr => ∃ k : Nat, k ≤ 100 ∧ i = .int .i64 k ∧ Hid (Mem w wr [⟨w.heap.size, fcells f, 30⟩, ⟨w.heap.size + 1, acells .i8 100 o, 44⟩, ⟨w.heap.size + 1 + 1, acells .u64 2 (fun _ => 0), 38⟩, ⟨bo, acells .u64 2 (wantSet f (patchQ o x) k), 38⟩])) (fun i _ => 100 - (intOf i).toNat)
    case atStart => exact ⟨0, by omega, rfl, Lib.hid M0⟩
    case round =>
      clear M0
      obtain ⟨k, hk', rfl, hM⟩ := hrel
      by_cases hlt : k < 100
      · have c1 := (hM.out.at 1 rfl).cell (acells_get _ _ o k hlt)
        obtain ⟨g1, g2⟩ := HO.out k hlt
        have hk1 : (k : Int) < 100 := by omega
        cases hq : (o k == x) with
        | true =>
          have hyes := Lib.hid (wantSet_yes (q := patchQ o x) (patch_cell H1.out H2.out hlt hq) hq)
          go_wp2_with (first
            | (go_at_call 42; refine (l01Put_any (wantSet f (patchQ o x) k) k hlt _ _ (hM.out.at 3 rfl)).mono ?_; rintro e w3 ⟨⟨_, rfl⟩, i, vv, hw2, hset⟩; have M4 := (hM.out.set 3 i vv rfl _ hset).drew; rw [hw2] at M4; have M5 := Lib.hid M4; clear M4))
          go_roundw
          case rel => exact ⟨k + 1, by omega, by go_num, by rw [hyes.out]; exact M5⟩
          case measure => simp [intOf]; omega
        | false =>
          have hno := Lib.hid (wantSet_no (f := f) (n := k) (q := patchQ o x) (by rw [show patchQ o x k = false from hq, Bool.and_false]))
          go_wp2_with fail
          go_roundw
          case rel => exact ⟨k + 1, by omega, by go_num, by rw [hno.out]; exact hM⟩
          case measure => simp [intOf]; omega
      · obtain rfl : k = 100 := by omega
        have M9 := hM.out
        rw [HGG.out] at M9
        go_wp2_with (first
          | (refine wpList_load_part rfl 38 _ rfl bo 0 rfl (acells .u64 2 G) _ (M9.at 3 rfl).whole Tryd.underlying38 rfl (by rw [acells_size]; exact sizeC) ?_)
          | (refine wpList_store_row rfl 38 _ _ rfl (w.heap.size + 1 + 1) (acells .u64 2 G) rfl rfl 38 _ (M9.at 2 rfl) (by rw [acells_size]; exact sizeC) (by simp only [acells_size]) (acells_one _ _ _) ?_))
        have M10 := M9.row 2 rfl (acells .u64 2 G)
        exact bodyPost_ret (results_row_tmp rfl _ _ (w.heap.size + 1 + 1) 38 _ _ _ rfl (M10.at 2 rfl) Tryd.underlying38 rfl (by rw [acells_size]; exact sizeC)) rfl ⟨rfl, M10.below⟩

set_option maxRecDepth 100000 in
set_option maxHeartbeats 2000000 in
theorem patch_closure (o : Nat → Int) (ho : WfO o) (x : Int) (bo bx k : Nat) (hk : k < 100) (w : World) (B : Blk w bo (acells .i8 100 o) 44) (X : Blk w bx #[.int .i64 x] 2) :
    Calls Tryd.prog 49 #[.int .i64 k, .pointer (some ⟨bo, 0, none⟩), .pointer (some ⟨bx, 0, none⟩)] w fun e w' => e = .returned (.bool (patchQ o x k)) ∧ Below w.heap.size w w' := by
  unfold patchQ
  go_enter Tryd.func49, Tryd.ntmps49
  go_upto_region 1 with (fail)
  refine wp_region_rel (DL [dV (.agg (acells .i8 100 o)), dV (.int .i64 (k : Int)), dV (.int .i64 (o k)), dV (.int .i64 x), dV (.bool (o k == x)), dV (.bool (o k == x))]) (fun w' => (Blk w' bo (acells .i8 100 o) 44 ∧ Blk w' bx #[.int .i64 x] 2) ∧ Below w.heap.size w w') (by kernel_rfl) (by kernel_rfl) (fun _ _ h hb => ⟨⟨h.1.1.later hb, h.1.2.later hb⟩, h.2.trans (hb.mono h.2.size)⟩)
    (stays_DL (fun d hd => by
      simp only [List.mem_cons, List.mem_nil_iff, or_false] at hd
      rcases hd with rfl | rfl | rfl | rfl | rfl | rfl <;> exact stay_V)) ⟨⟨B.drew, X.drew⟩, (Below.refl _ _).drew⟩ ?_
  refine rel_load 44 _ rfl bo 0 rfl (acells .i8 100 o) _ rfl rfl (fun w' hw' => hw'.1.1.whole) Tryd.underlying44 rfl (by rw [acells_size]; exact sizeOw) (fun _ => ?_)
  simp only [Act.put, List.setIfInBounds_toArray, List.set_cons_zero, List.set_cons_succ]
  refine rel_val _ rfl rfl (fun _ _ => rfl) (fun _ => ?_)
  simp only [Act.put, List.setIfInBounds_toArray, List.set_cons_zero, List.set_cons_succ]
  refine rel_call (.int .i64 (o k)) 50 #[.agg (acells .i8 100 o), .int .i64 (k : Int)] rfl rfl rfl rfl (enters_of Tryd.func50 (by kernel_rfl) rfl) (fun w' _ => of_any o ho k hk w') (fun _ => ?_)
  simp only [Act.put, List.setIfInBounds_toArray, List.set_cons_zero, List.set_cons_succ]
  refine rel_cell 2 _ rfl (bx) (0) rfl (.int .i64 x) rfl rfl (fun w' c => load_p64 _ _ _ w' c) (fun w' hw' => hw'.1.2.cell (i := 0) rfl) (fun _ => ?_)
  simp only [Act.put, List.setIfInBounds_toArray, List.set_cons_zero, List.set_cons_succ]
  refine rel_val (.bool (o k == x)) rfl rfl (fun _ _ => rfl) (fun _ => ?_)
  simp only [Act.put, List.setIfInBounds_toArray, List.set_cons_zero, List.set_cons_succ]
  refine rel_val _ rfl rfl (fun _ _ => rfl) (fun _ => ?_)
  simp only [Act.put, List.setIfInBounds_toArray, List.set_cons_zero, List.set_cons_succ]
  refine rel_nil (fun W5 inv => ?_)
  have hB := inv.cls.2
  clear inv
  obtain ⟨v, hv⟩ : ∃ v, (o k == x) = v := ⟨_, rfl⟩
  rw [hv]
  have HV := Lib.hid hv
  clear hv
  go_wp2_with fail
  go_ret
  exact ⟨by rw [HV.out]; rfl, hB⟩

set_option maxRecDepth 100000 in
set_option maxHeartbeats 8000000 in
theorem implPatchesOf (f : Fd) (hf : f.Wf) (o : Nat → Int) (hw : ∀ i, i < 100 → (Lit.int .i8 (o i)).wf = true) (x : Int) (A : Nat → Addr) (w : World) (S0 : Sents w A) : Calls Tryd.prog 21 #[.agg (fcells f), .agg (acells .i8 100 o), .int .i64 x] w fun e w' => e = .returned (.tuple #[.agg (acells .u64 2 (patchSet f o x)), .int .i64 (patchCode f o x)]) ∧ Below w.heap.size w w' := by
  have HO := Lib.hid (wfO_of hw)
  have HW := Lib.hid hw
  have S := Lib.hid S0
  clear hw S0
  cases h1 : ownB f o with
  | false =>
    have hc : patchCode f o x = 1 := by unfold patchCode; rw [if_pos h1]
    unfold patchSet
    rw [hc, if_neg (by decide)]
    clear hc
    go_enter Tryd.func21, Tryd.ntmps21
    go_upto_region 1 with (fail)
    rw [zero2]
    obtain ⟨W, hW, M⟩ := open4p w (fcells f) 30 (acells .i8 100 o) 44 #[.int .i64 x] 2 (acells .u64 2 (fun _ => 0)) 38
    rw [hW]; clear hW
    go_wp2_with (first
      | (refine wpList_load_part rfl 30 _ rfl w.heap.size 0 rfl (fcells f) _ (M.at 0 rfl).whole Tryd.underlying30 rfl (by rw [fcells_size]; exact sizeFd) ?_)
      | (refine wpList_load_part rfl 44 _ rfl (w.heap.size + 1) 0 rfl (acells .i8 100 o) _ (M.at 1 rfl).whole Tryd.underlying44 rfl (by rw [acells_size]; exact sizeOw) ?_)
      | (go_at_call 47; refine (implValidOwners f hf o HW.out _).mono ?_; rintro e W2 ⟨rfl, hb⟩; rw [h1]; have M2 := M.call hb; clear hb; have hv1 := (S.out.later M2.below).v1)
      | (refine wpList_build0P rfl 38 rfl _ (bZeroC2 _) ?_; rw [zero2])
      | (go_at_call 37; refine (codeOf_err A 1 (by omega) (by omega) _ (S.out.later M2.below)).mono ?_; rintro e W3 ⟨rfl, rfl⟩)
      | (refine wpList_store_row rfl 38 _ _ rfl (w.heap.size + 1 + 1 + 1) (acells .u64 2 (fun _ => 0)) rfl rfl 38 _ (M2.at 3 rfl) (by rw [acells_size]; exact sizeC) (by simp only [acells_size]) (acells_one _ _ _) ?_))
    have M4 := M2.row 3 rfl (acells .u64 2 (fun _ => 0))
    exact bodyPost_ret (results_row_tmp rfl _ _ (w.heap.size + 1 + 1 + 1) 38 _ _ _ rfl (M4.at 3 rfl) Tryd.underlying38 rfl (by rw [acells_size]; exact sizeC)) rfl ⟨rfl, M4.below⟩
  | true =>
  cases h2 : inB x 0 9 with
  | false =>
    have hc : patchCode f o x = 2 := by unfold patchCode; rw [if_neg (by rw [h1]; decide), if_pos h2]
    unfold patchSet
    rw [hc, if_neg (by decide)]
    clear hc
    go_enter Tryd.func21, Tryd.ntmps21
    go_upto_region 1 with (fail)
    rw [zero2]
    obtain ⟨W, hW, M⟩ := open4p w (fcells f) 30 (acells .i8 100 o) 44 #[.int .i64 x] 2 (acells .u64 2 (fun _ => 0)) 38
    rw [hW]; clear hW
    go_wp2_with (first
      | (refine wpList_load_part rfl 30 _ rfl w.heap.size 0 rfl (fcells f) _ (M.at 0 rfl).whole Tryd.underlying30 rfl (by rw [fcells_size]; exact sizeFd) ?_)
      | (refine wpList_load_part rfl 44 _ rfl (w.heap.size + 1) 0 rfl (acells .i8 100 o) _ (M.at 1 rfl).whole Tryd.underlying44 rfl (by rw [acells_size]; exact sizeOw) ?_)
      | (go_at_call 47; refine (implValidOwners f hf o HW.out _).mono ?_; rintro e W2 ⟨rfl, hb⟩; rw [h1]; have M2 := M.call hb; clear hb; have hv2 := (S.out.later M2.below).v2; have cx := (M2.at 2 rfl).cell (i := 0) rfl)
      | (go_at_call 48; refine (isOwner_any _ _).mono ?_; rintro e W3 ⟨rfl, rfl⟩; rw [h2])
      | (refine wpList_build0P rfl 38 rfl _ (bZeroC2 _) ?_; rw [zero2])
      | (go_at_call 37; refine (codeOf_err A 2 (by omega) (by omega) _ (S.out.later M2.below)).mono ?_; rintro e W3 ⟨rfl, rfl⟩)
      | (refine wpList_store_row rfl 38 _ _ rfl (w.heap.size + 1 + 1 + 1) (acells .u64 2 (fun _ => 0)) rfl rfl 38 _ (M2.at 3 rfl) (by rw [acells_size]; exact sizeC) (by simp only [acells_size]) (acells_one _ _ _) ?_))
    have M4 := M2.row 3 rfl (acells .u64 2 (fun _ => 0))
    exact bodyPost_ret (results_row_tmp rfl _ _ (w.heap.size + 1 + 1 + 1) 38 _ _ _ rfl (M4.at 3 rfl) Tryd.underlying38 rfl (by rw [acells_size]; exact sizeC)) rfl ⟨rfl, M4.below⟩
  | true =>
    have hc : patchCode f o x = 0 := by unfold patchCode; rw [if_neg (by rw [h1]; decide), if_neg (by rw [h2]; decide)]
    unfold patchSet
    rw [if_pos hc, hc]
    clear hc
    have hok := Lib.hid (show okF f = true by simp only [ownB, Bool.and_eq_true] at h1; exact h1.1)
    have hmf : ∀ (fn : Fn) (first cap : Array Value) (w : World), (Instr.makeFunc fn first cap).run Tryd.prog w = .ok (.func fn first cap) w := fun _ _ _ _ => rfl
    obtain ⟨G, hG⟩ : ∃ G, wantSet f (patchQ o x) 100 = G := ⟨_, rfl⟩
    rw [hG]
    have HGG := Lib.hid hG
    clear hG
    go_enter Tryd.func21, Tryd.ntmps21
    go_upto_region 1 with (fail)
    rw [zero2]
    obtain ⟨W, hW, M⟩ := open4p w (fcells f) 30 (acells .i8 100 o) 44 #[.int .i64 x] 2 (acells .u64 2 (fun _ => 0)) 38
    rw [hW]; clear hW
    go_wp2_with (first
      | (refine wpList_load_part rfl 30 _ rfl w.heap.size 0 rfl (fcells f) _ (M.at 0 rfl).whole Tryd.underlying30 rfl (by rw [fcells_size]; exact sizeFd) ?_)
      | (refine wpList_load_part rfl 44 _ rfl (w.heap.size + 1) 0 rfl (acells .i8 100 o) _ (M.at 1 rfl).whole Tryd.underlying44 rfl (by rw [acells_size]; exact sizeOw) ?_)
      | (go_at_call 47; refine (implValidOwners f hf o HW.out _).mono ?_; rintro e W2 ⟨rfl, hb⟩; rw [h1]; have M2 := M.call hb; clear hb; have cx := (M2.at 2 rfl).cell (i := 0) rfl)
      | (go_at_call 48; refine (isOwner_any _ _).mono ?_; rintro e W3 ⟨rfl, rfl⟩; rw [h2])
      | (refine wpList_load_part rfl 30 _ rfl w.heap.size 0 rfl (fcells f) _ (M2.at 0 rfl).whole Tryd.underlying30 rfl (by rw [fcells_size]; exact sizeFd) ?_)
      | (go_at_call 43; refine (cellsWhere_any f hok.out 49 #[.pointer (some ⟨w.heap.size + 1, 0, none⟩), .pointer (some ⟨w.heap.size + 1 + 1, 0, none⟩)] (patchQ o x) (fun w' => Blk w' (w.heap.size + 1) (acells .i8 100 o) 44 ∧ Blk w' (w.heap.size + 1 + 1) #[.int .i64 x] 2) (fun _ _ h hb => ⟨h.1.later hb, h.2.later hb⟩) (fun k w' hk h => patch_closure o HO.out x _ _ k (isCell_lt hk) w' h.1 h.2) _ ⟨M2.at 1 rfl, M2.at 2 rfl⟩ (enters_of Tryd.func49 (by kernel_rfl) rfl)).mono ?_; rintro e W4 ⟨rfl, hb⟩; rw [HGG.out]; have M4 := M2.call hb; clear hb)
      | (refine wpList_store_row rfl 38 _ _ rfl (w.heap.size + 1 + 1 + 1) (acells .u64 2 G) rfl rfl 38 _ (M4.at 3 rfl) (by rw [acells_size]; exact sizeC) (by simp only [acells_size]) (acells_one _ _ _) ?_))
    have M6 := M4.row 3 rfl (acells .u64 2 G)
    exact bodyPost_ret (results_row_tmp rfl _ _ (w.heap.size + 1 + 1 + 1) 38 _ _ _ rfl (M6.at 3 rfl) Tryd.underlying38 rfl (by rw [acells_size]; exact sizeC)) rfl ⟨rfl, M6.below⟩
end Go.Proofs.YtpiejcibjphffaaDoor
