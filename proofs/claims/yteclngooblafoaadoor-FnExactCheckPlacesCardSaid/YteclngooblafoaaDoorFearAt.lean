/-
  The fear of one scarecrow in a cell: the program's.
-/
import Derived.Test.YteclngooblafoaaDoorFear
import Derived.Test.YteclngooblafoaaDoorCoreD
import Derived.Test.YteclngooblafoaaDoorCoreB
import Derived.Test.YteclngooblafoaaDoorCoreC
namespace Go.Proofs.YteclngooblafoaaDoor
open Go Go.RowKit

theorem sqB (x c : Int) (hx : 0 ≤ x ∧ x ≤ 99) (hc : 0 ≤ c ∧ c ≤ 99) (w : World) : Calls Tryd.prog 95 #[.int .i64 x, .int .i64 c] w fun e w' => e = .returned (.int .i64 (sq x c)) ∧ w = w' := by
  obtain ⟨m, rfl⟩ : ∃ m : Nat, x = (m : Int) := ⟨x.toNat, by omega⟩
  obtain ⟨k, rfl⟩ : ∃ k : Nat, c = (k : Int) := ⟨c.toNat, by omega⟩
  exact squareBetween_any m k (by omega) (by omega) w
set_option maxRecDepth 100000 in
set_option maxHeartbeats 1000000 in
theorem fearAt_any (a : Nat → Int) (ha : WfT a) (h : shapeOk a = true) (c : Int) (hc : 0 ≤ c ∧ c ≤ 99) (w : World) : Calls Tryd.prog 84 #[vScarecrow a, .int .i64 c] w fun e w' => e = .returned (.int .i64 (fearA a c)) ∧ Below w.heap.size w w' := by
  have hb0 : 0 ≤ a 0 ∧ a 0 ≤ 99 := by simp only [shapeOk, Bool.and_eq_true, inB_iff] at h; exact h.1.1
  have hs := sq_in hb0 hc
  have hf := fear_in h hc
  have hcn := cnt_in h
  have hw0 : Hid (wrap64 (a 0) = a 0) := Lib.hid (by unfold wrap64; omega)
  have hw1 : Hid (wrap64 (1 + sq (a 0) c) = 1 + sq (a 0) c) := Lib.hid (by unfold wrap64; omega)
  have hne : ¬ (1 + sq (a 0) c = 0) := by omega
  have hdiv : Hid (wrap64 ((cntA a).tdiv (1 + sq (a 0) c)) = fearA a c) := Lib.hid (by
    rw [Int.tdiv_eq_ediv_of_nonneg hcn.1]
    unfold fearA at hf ⊢
    unfold wrap64; omega)
  go_enter Tryd.func84, Tryd.ntmps84
  go_upto_region 1 with (fail)
  obtain ⟨W, hW, M⟩ := open1 w #[.int .i16 (a 0), .int .i16 (a 1), .int .i8 (a 2)] 71
  rw [hW]; clear hW
  refine wp_region_rel (DL [dV (vScarecrow a), dV (.int .i64 (cntA a)), dV (.pointer (some ⟨w.heap.size, 0, none⟩)), dV (.int .i16 (a 0)), dV (.int .i64 (a 0)), dV (.int .i64 c), dV (.int .i64 (sq (a 0) c)), dV (.int .i64 (1 + sq (a 0) c)), dV (.int .i64 (fearA a c)), dV (.int .i64 (fearA a c))]) (fun w' => Mem w w' [⟨w.heap.size, #[.int .i16 (a 0), .int .i16 (a 1), .int .i8 (a 2)], 71⟩]) (by kernel_rfl) (by kernel_rfl) grows_mem
    (stays_DL (fun d hd => by
      simp only [List.mem_cons, List.mem_nil_iff, or_false] at hd
      rcases hd with rfl | rfl | rfl | rfl | rfl | rfl | rfl | rfl | rfl | rfl <;> exact stay_V)) M.drew ?_
  refine rel_load 71 _ rfl w.heap.size 0 rfl #[.int .i16 (a 0), .int .i16 (a 1), .int .i8 (a 2)] _ rfl rfl (fun w' hw' => (hw'.at 0 rfl).whole) Tryd.underlying71 rfl (by kernel_rfl) (fun _ => ?_)
  simp only [Act.put, List.setIfInBounds_toArray, List.set_cons_zero, List.set_cons_succ]
  refine rel_call (.int .i64 (cntA a)) 94 #[vScarecrow a] rfl rfl rfl rfl (enters_of Tryd.func94 (by kernel_rfl) rfl) (fun w' _ => counts_any a ha h w') (fun _ => ?_)
  simp only [Act.put, List.setIfInBounds_toArray, List.set_cons_zero, List.set_cons_succ]
  refine rel_val (.pointer (some ⟨w.heap.size, 0, none⟩)) rfl rfl (fun _ _ => rfl) (fun _ => ?_)
  simp only [Act.put, List.setIfInBounds_toArray, List.set_cons_zero, List.set_cons_succ]
  refine rel_cell 24 _ rfl w.heap.size 0 rfl (.int .i16 (a 0)) rfl rfl (fun w' c => load_i16 _ _ _ w' c) (fun w' hw' => (hw'.at 0 rfl).cell (i := 0) rfl) (fun _ => ?_)
  simp only [Act.put, List.setIfInBounds_toArray, List.set_cons_zero, List.set_cons_succ]
  refine rel_val (.int .i64 (a 0)) rfl rfl (fun w' _ => by
    have e : IntKind.i64.wrap (a 0) = a 0 := by
      have e := hw0.out
      unfold wrap64 at e
      rw [IntKind.wrap_i64]; exact e
    simp [execOp, Act.eval, go_sem, Tryd.underlying24, Tryd.underlying2, e]) (fun _ => ?_)
  simp only [Act.put, List.setIfInBounds_toArray, List.set_cons_zero, List.set_cons_succ]
  refine rel_val (.int .i64 c) rfl rfl (fun _ _ => rfl) (fun _ => ?_)
  simp only [Act.put, List.setIfInBounds_toArray, List.set_cons_zero, List.set_cons_succ]
  refine rel_call (.int .i64 (sq (a 0) c)) 95 #[.int .i64 (a 0), .int .i64 c] rfl rfl rfl rfl (enters_of Tryd.func95 (by kernel_rfl) rfl) (fun w' _ => (sqB (a 0) c hb0 hc w').mono (fun e w2 h => ⟨h.1, by rw [h.2]; exact Below.refl _ _⟩)) (fun _ => ?_)
  simp only [Act.put, List.setIfInBounds_toArray, List.set_cons_zero, List.set_cons_succ]
  refine rel_val (.int .i64 (1 + sq (a 0) c)) rfl rfl (fun w' _ => by
    have e : IntKind.i64.wrap (1 + sq (a 0) c) = 1 + sq (a 0) c := by
      have e := hw1.out
      unfold wrap64 at e
      rw [IntKind.wrap_i64]; exact e
    simp [execOp, Act.eval, go_sem, e]) (fun _ => ?_)
  simp only [Act.put, List.setIfInBounds_toArray, List.set_cons_zero, List.set_cons_succ]
  refine rel_val (.int .i64 (fearA a c)) rfl rfl (fun w' _ => by
    have e : IntKind.i64.wrap ((cntA a).tdiv (1 + sq (a 0) c)) = fearA a c := by
      have e := hdiv.out
      unfold wrap64 at e
      rw [IntKind.wrap_i64]; exact e
    simp [execOp, Act.eval, go_sem, hne, e]) (fun _ => ?_)
  simp only [Act.put, List.setIfInBounds_toArray, List.set_cons_zero, List.set_cons_succ]
  refine rel_val (.int .i64 (fearA a c)) rfl rfl (fun _ _ => rfl) (fun _ => ?_)
  simp only [Act.put, List.setIfInBounds_toArray, List.set_cons_zero, List.set_cons_succ]
  refine rel_nil (fun w' inv => ?_)
  have M2 := inv.cls
  clear inv
  go_wp2_with fail
  go_ret
  exact ⟨rfl, M2.below⟩
set_option maxRecDepth 100000 in
theorem fear_closure (a : Nat → Int) (ha : WfT a) (h : shapeOk a = true) (c : Int) (hc : 0 ≤ c ∧ c ≤ 99) (pc : Nat) (w : World) (h1 : w.cell? ⟨pc, 0, none⟩ = some (.int .i64 c)) : Calls Tryd.prog 83 #[vScarecrow a, .pointer (some ⟨pc, 0, none⟩)] w fun e w' => e = .returned (.int .i64 (fearA a c)) ∧ Below w.heap.size w w' := by
  go_enter Tryd.func83, Tryd.ntmps83
  go_upto_region 1 with (fail)
  obtain ⟨W, hW, M⟩ := open1 w #[.int .i16 (a 0), .int .i16 (a 1), .int .i8 (a 2)] 71
  rw [hW]; clear hW
  have h2 := cell_later h1 M.below
  go_wp2_with (first
    | (refine wpList_load_part rfl 71 _ rfl w.heap.size 0 rfl #[.int .i16 (a 0), .int .i16 (a 1), .int .i8 (a 2)] _ (M.at 0 rfl).whole Tryd.underlying71 rfl (by kernel_rfl) ?_)
    | (go_at_call 84; refine (fearAt_any a ha h c hc _).mono ?_; rintro e w2 ⟨rfl, hb⟩; have M2 := M.call hb))
  go_ret
  exact ⟨rfl, M2.below⟩
end Go.Proofs.YteclngooblafoaaDoor
