/-
  ValidOwners: for every field (valid or not) and all further arguments the program answers as the model does: no condition.
-/
import Derived.Test.YtpiejcibjphffaaOwnL
import Derived.Test.YtpiejcibjphffaaRegK
import Derived.Test.YtpiejcibjphffaaLawh
import Derived.Test.YtpiejcibjphffaaOpen
import Derived.Test.YtpiejcibjphffaaRows
import Derived.ChangeOld
import Derived.Below
namespace Go.Proofs.Ytpiejcibjphffaa.lawValidOwners
open Go Go.ChangeShapes Go.WideShapes Go.ChangeAt Go.RowKit

theorem own : ownKnob Try.prog.godebug = none := by kernel_rfl
theorem laidOut : laidOutB Try.prog = true := by kernel_rfl
set_option maxRecDepth 100000 in
set_option maxHeartbeats 8000000 in
theorem walk (w : World) (f : Fd) (hff : f.Wf) (o : Nat → Int) (hoo : ∀ i, i < 100 → (Lit.int .i8 (o i)).wf = true) : Calls Try.prog 3 #[.agg (fcells f), .agg (acells .i8 100 o)] w fun e w' => e = .returned (.bool true) ∧ Below w.heap.size w w' := by
  go_enter Try.func3, Try.ntmps3
  go_upto_region 1 with (fail)
  obtain ⟨W, hW, M⟩ := open2 w (fcells f) 27 (acells .i8 100 o) 28
  rw [hW]; clear hW
  refine wp_region_rel (DL [dV (.agg (fcells f)), dV (.agg (fcells f)), dV (.agg (acells .i8 100 o)), dV (.agg (acells .i8 100 o)), dV (.bool (ownB f o)), dV (.bool (ownB f o))]) (fun w' => Mem w w' [⟨w.heap.size, fcells f, 27⟩, ⟨w.heap.size + 1, acells .i8 100 o, 28⟩]) (by kernel_rfl) (by kernel_rfl) grows_mem
    (stays_DL (fun d hd => by
      simp only [List.mem_cons, List.mem_nil_iff, or_false] at hd
      rcases hd with rfl | rfl | rfl | rfl | rfl | rfl <;> exact stay_V)) M.drew ?_
  refine rel_load 27 _ rfl (w.heap.size) (0) rfl (fcells f) _ rfl rfl (fun w' hw' => (hw'.at 0 rfl).whole) Try.underlying27 rfl (by rw [fcells_size]; exact sizeFl) (fun _ => ?_)
  simp only [Act.put, List.setIfInBounds_toArray, List.set_cons_zero, List.set_cons_succ]
  refine rel_call (.agg (fcells f)) 5 #[.agg (fcells f)] rfl rfl rfl rfl (enters_of Try.func5 (by kernel_rfl) rfl) (fun w' _ => toField f w') (fun _ => ?_)
  simp only [Act.put, List.setIfInBounds_toArray, List.set_cons_zero, List.set_cons_succ]
  refine rel_load 28 _ rfl (w.heap.size + 1) (0) rfl (acells .i8 100 o) _ rfl rfl (fun w' hw' => (hw'.at 1 rfl).whole) Try.underlying28 rfl (by rw [acells_size]; exact sizeO8) (fun _ => ?_)
  simp only [Act.put, List.setIfInBounds_toArray, List.set_cons_zero, List.set_cons_succ]
  refine rel_call (.agg (acells .i8 100 o)) 6 #[.agg (acells .i8 100 o)] rfl rfl rfl rfl (enters_of Try.func6 (by kernel_rfl) rfl) (fun w' _ => toOwners o w') (fun _ => ?_)
  simp only [Act.put, List.setIfInBounds_toArray, List.set_cons_zero, List.set_cons_succ]
  refine rel_call (.bool (ownB f o)) 4 #[.agg (fcells f), .agg (acells .i8 100 o)] rfl rfl rfl rfl (enters_of Try.func4 (by kernel_rfl) rfl) (fun w' hw' => specValidOwners f hff o hoo w') (fun _ => ?_)
  simp only [Act.put, List.setIfInBounds_toArray, List.set_cons_zero, List.set_cons_succ]
  refine rel_val _ rfl rfl (fun _ _ => rfl) (fun _ => ?_)
  simp only [Act.put, List.setIfInBounds_toArray, List.set_cons_zero, List.set_cons_succ]
  refine rel_nil (fun W1 inv => ?_)
  have Nspec := inv.cls
  clear inv M
  go_upto_region 2 with (fail)
  refine wp_region_rel (DL [dV (.agg (fcells f)), dV (.agg (fcells f)), dV (.agg (acells .i8 100 o)), dV (.agg (acells .i8 100 o)), dV (.bool (ownB f o)), dV (.bool (ownB f o))]) (fun w' => Mem w w' [⟨w.heap.size, fcells f, 27⟩, ⟨w.heap.size + 1, acells .i8 100 o, 28⟩]) (by kernel_rfl) (by kernel_rfl) grows_mem
    (stays_DL (fun d hd => by
      simp only [List.mem_cons, List.mem_nil_iff, or_false] at hd
      rcases hd with rfl | rfl | rfl | rfl | rfl | rfl <;> exact stay_V)) Nspec.drew ?_
  refine rel_load 27 _ rfl (w.heap.size) (0) rfl (fcells f) _ rfl rfl (fun w' hw' => (hw'.at 0 rfl).whole) Try.underlying27 rfl (by rw [fcells_size]; exact sizeFl) (fun _ => ?_)
  simp only [Act.put, List.setIfInBounds_toArray, List.set_cons_zero, List.set_cons_succ]
  refine rel_call (.agg (fcells f)) 5 #[.agg (fcells f)] rfl rfl rfl rfl (enters_of Try.func5 (by kernel_rfl) rfl) (fun w' _ => toField f w') (fun _ => ?_)
  simp only [Act.put, List.setIfInBounds_toArray, List.set_cons_zero, List.set_cons_succ]
  refine rel_load 28 _ rfl (w.heap.size + 1) (0) rfl (acells .i8 100 o) _ rfl rfl (fun w' hw' => (hw'.at 1 rfl).whole) Try.underlying28 rfl (by rw [acells_size]; exact sizeO8) (fun _ => ?_)
  simp only [Act.put, List.setIfInBounds_toArray, List.set_cons_zero, List.set_cons_succ]
  refine rel_call (.agg (acells .i8 100 o)) 6 #[.agg (acells .i8 100 o)] rfl rfl rfl rfl (enters_of Try.func6 (by kernel_rfl) rfl) (fun w' _ => toOwners o w') (fun _ => ?_)
  simp only [Act.put, List.setIfInBounds_toArray, List.set_cons_zero, List.set_cons_succ]
  refine rel_call (.bool (ownB f o)) 7 #[.agg (fcells f), .agg (acells .i8 100 o)] rfl rfl rfl rfl (enters_of Try.func7 (by kernel_rfl) rfl) (fun w' hw' => implValidOwners f hff o hoo w') (fun _ => ?_)
  simp only [Act.put, List.setIfInBounds_toArray, List.set_cons_zero, List.set_cons_succ]
  refine rel_val _ rfl rfl (fun _ _ => rfl) (fun _ => ?_)
  simp only [Act.put, List.setIfInBounds_toArray, List.set_cons_zero, List.set_cons_succ]
  refine rel_nil (fun W6 inv => ?_)
  have Nimpl := inv.cls
  clear inv Nspec
  obtain ⟨rv0, hrv0⟩ : ∃ x, ownB f o = x := ⟨_, rfl⟩
  rw [hrv0]
  clear hrv0
  go_wp2_with fail
  go_ret
  exact ⟨rfl, Nimpl.below⟩
set_option maxRecDepth 100000 in
theorem lifted (os : Os) (started : os.Started) (H : Type) (enc : TypeId × Value → H) :
    ReturnsInHanded {} Try.checked os 3 .any (Rows.fnExactValidOwnersSpec.pre6 enc Try.prog Try.f3 Rows.fnExactValidOwnersRow.domain false) (Rows.fnExactValidOwnersSpec.post enc Try.prog Try.f3 false true false false) := by
  refine returnsInHanded_of_change (C := Try.checked) own started (by kernel_rfl) Try.func3
    (ChangeSpec.witness6 (enc := enc) (C := Try.checked) false ⟨#[], #[.agg (fcells Fd.zero), .agg (acells .i8 100 (fun _ => 0))], []⟩ 8 (by kernel_rfl) (by kernel_rfl) (by kernel_rfl) (by kernel_rfl)) ?_
  intro W base args ds gs before hval0 hW hcnd _
  have hval : ∀ (j : Nat) t v, Try.f3.params[j]? = some t → args[j]? = some v → Value.okWide Try.prog W .any base t v := hval0
  have hW' := hW
  obtain ⟨p, q, hA0, hV, rfl, hfz, hnd⟩ := hW
  have hA : DataW.TrodAll enc Try.prog W 0 (fun _ => true) true Try.f3.params.toList args.toList ds p := hA0
  rw [Try.params3] at hA hval
  obtain ⟨v0, vs0, d0, ds0, p0, q0, hargs, rfl, rfl, h0, r0⟩ := trodAll_cons hA
  obtain ⟨v1, vs1, d1, ds1, p1, q1, rfl, rfl, rfl, h1, r1⟩ := trodAll_cons r0
  obtain ⟨rfl, rfl, rfl⟩ := trodAll_nil r1
  obtain rfl : args = #[v0, v1] := by cases args; simp_all
  obtain ⟨rfl, rfl⟩ := trodVars_none hV
  have k0 := h0
  have lt0 : ∀ x ∈ p0, x.block < W.heap.size := by obtain ⟨m, hm⟩ := k0; exact DataW.trod_lt m _ _ _ hm
  have k1 := h1
  have lt1 : ∀ x ∈ p1, x.block < W.heap.size := by obtain ⟨m, hm⟩ := k1; exact DataW.trod_lt m _ _ _ hm
  obtain ⟨f0, rfl, hf0⟩ := open_field (fs := Try.prog.fieldsOf 27) (by kernel_rfl) (by kernel_rfl) Try.underlying22 Try.underlying23 Try.underlying5 Try.underlying25 Try.underlying24 (by kernel_rfl) (by kernel_rfl) (by kernel_rfl) (by kernel_rfl) (by kernel_rfl) (by kernel_rfl) (hval 0 27 v0 rfl rfl) h0
  obtain ⟨f1, rfl, hf1⟩ := open_row (q := .i8) Try.underlying28 Try.underlying22 (by kernel_rfl) (by kernel_rfl) (hval 1 28 v1 rfl rfl) h1
  clear hA0 hval0
  refine (walk W f0 hf0 f1 hf1).mono fun e W' ⟨he, bel⟩ => ?_
  subst he
  exact ⟨_, rfl, _, _, _, [], _, [], hW', trodAll_mk1 (shut_bool Try.underlying4 _), (trodAll_cons_mk (Below.trod laidOut (by kernel_rfl) (of_decide_eq_true (by kernel_rfl)) k0 bel lt0) (trodAll_cons_mk (Below.trod laidOut (by kernel_rfl) (of_decide_eq_true (by kernel_rfl)) k1 bel lt1) trodAll_mk0)), rfl, bel.frame _, fun h => by cases h⟩

theorem over : Rows.fnExactValidOwnersRow.holds Try.pinned (OpenSpec.ofChange Rows.fnExactValidOwnersSpec) :=
  OpenClaim.holds_of_wide 3 Try.f3 rfl rfl rfl rfl rfl rfl rfl ⟨rfl, rfl, rfl, rfl, rfl⟩ rfl rfl rfl rfl rfl (by kernel_rfl) Try.func3 (by kernel_rfl)
    (of_decide_eq_true (by kernel_rfl)) (by unfold Func.isWrapper; first | (rw [if_pos (by decide +kernel)]; kernel_rfl) | (rw [if_neg (by decide +kernel)]; exact ⟨rfl, rfl⟩))
    (fun os started H enc _ => lifted os started H enc)

theorem proved : Rows.FnExactValidOwnersSaid := over
#print axioms proved
