/-
  For every two fields the program's SameField answers as the model's: no condition.
-/
import Derived.Test.YtfnpbpokieckcaaEq
import Derived.Test.YtfnpbpokieckcaaIn
import Derived.Test.YtfnpbpokieckcaaLawh
import Derived.Test.YtfnpbpokieckcaaOpen
import Derived.Test.YtfnpbpokieckcaaRegM
import Derived.Test.YtfnpbpokieckcaaRows
import Derived.ChangeOld
import Derived.Below
import Derived.Shelf.Abstract
namespace Go.Proofs.Ytfnpbpokieckcaa.lawSameField
open Go Go.ChangeShapes Go.WideShapes Go.ChangeAt Go.RowKit

theorem own : ownKnob Try.prog.godebug = none := by kernel_rfl
theorem laidOut : laidOutB Try.prog = true := by kernel_rfl

set_option maxRecDepth 100000 in
theorem spec2 (f g : Fd) (hf : f.Wf) (hg : g.Wf) (w : World) : Calls Try.prog 5 #[.agg (fcells f), .agg (fcells g)] w fun e w' => e = .returned (.bool (feq f g)) ∧ Below w.heap.size w w' := by
  go_enter Try.func5, Try.ntmps5
  go_upto_region 1 with (fail)
  obtain ⟨W, hW, M⟩ := open2 w (fcells f) 29 (fcells g) 29
  rw [hW]; clear hW
  go_wp2_with (first
    | (refine wpList_load_part rfl 29 (.tmp 2) rfl w.heap.size 0 rfl (fcells f) _ (M.at 0 rfl).whole Try.underlying29 rfl (by rw [fcells_size]; exact sizeFd) ?_)
    | (refine wpList_load_part rfl 29 (.tmp 3) rfl (w.heap.size + 1) 0 rfl (fcells g) _ (M.at 1 rfl).whole Try.underlying29 rfl (by rw [fcells_size]; exact sizeFd) ?_)
    | (refine wpList_eql rfl 29 _ _ _ rfl (fcells f) (fcells g) rfl rfl (by kernel_rfl) _ (run_equalIn_field _ _ hf hg _) ?_))
  go_ret
  exact ⟨rfl, M.below⟩

set_option maxRecDepth 100000 in
theorem impl2 (f g : Fd) (hf : f.Wf) (hg : g.Wf) (w : World) : Calls Try.prog 7 #[.agg (fcells f), .agg (fcells g)] w fun e w' => e = .returned (.bool (feq f g)) ∧ Below w.heap.size w w' := by
  go_enter Try.func7, Try.ntmps7
  go_upto_region 1 with (fail)
  obtain ⟨W, hW, M⟩ := open2 w (fcells f) 29 (fcells g) 29
  rw [hW]; clear hW
  go_wp2_with (first
    | (refine wpList_load_part rfl 29 (.tmp 2) rfl w.heap.size 0 rfl (fcells f) _ (M.at 0 rfl).whole Try.underlying29 rfl (by rw [fcells_size]; exact sizeFd) ?_)
    | (refine wpList_load_part rfl 29 (.tmp 3) rfl (w.heap.size + 1) 0 rfl (fcells g) _ (M.at 1 rfl).whole Try.underlying29 rfl (by rw [fcells_size]; exact sizeFd) ?_)
    | (refine wpList_eql rfl 29 _ _ _ rfl (fcells f) (fcells g) rfl rfl (by kernel_rfl) _ (run_equalIn_field _ _ hf hg _) ?_))
  go_ret
  exact ⟨rfl, M.below⟩

set_option maxRecDepth 100000 in
set_option maxHeartbeats 2000000 in
theorem walk (f : Fd) (hf : f.Wf) (g : Fd) (hg : g.Wf) (w : World) : Calls Try.prog 3 #[.agg (fcells f), .agg (fcells g)] w fun e w' => e = .returned (.bool true) ∧ Below w.heap.size w w' := by
  go_enter Try.func3, Try.ntmps3
  go_upto_region 1 with (fail)
  obtain ⟨W, hW, M⟩ := open2 w (fcells f) 27 (fcells g) 27
  rw [hW]; clear hW
  refine wp_region_rel (DL [dV (.agg (fcells f)), dV (.agg (fcells f)), dV (.agg (fcells g)), dV (.agg (fcells g)), dV (.bool (feq f g)), dV (.bool (feq f g))]) (fun w' => Mem w w' [⟨w.heap.size, fcells f, 27⟩, ⟨w.heap.size + 1, fcells g, 27⟩]) (by kernel_rfl) (by kernel_rfl) grows_mem
    (stays_DL (fun d hd => by
      simp only [List.mem_cons, List.mem_nil_iff, or_false] at hd
      rcases hd with rfl | rfl | rfl | rfl | rfl | rfl <;> exact stay_V)) M.drew ?_
  refine rel_load 27 _ rfl w.heap.size 0 rfl (fcells f) _ rfl rfl (fun w' hw' => (hw'.at 0 rfl).whole) Try.underlying27 rfl (by rw [fcells_size]; exact sizeFl) (fun x0 => ?_)
  refine rel_call _ 6 #[.agg (fcells f)] rfl rfl rfl rfl (enters_of Try.func6 (by kernel_rfl) rfl) (fun w' _ => toField f w') (fun x1 => ?_)
  refine rel_load 27 _ rfl (w.heap.size + 1) 0 rfl (fcells g) _ rfl rfl (fun w' hw' => (hw'.at 1 rfl).whole) Try.underlying27 rfl (by rw [fcells_size]; exact sizeFl) (fun x2 => ?_)
  refine rel_call _ 6 #[.agg (fcells g)] rfl rfl rfl rfl (enters_of Try.func6 (by kernel_rfl) rfl) (fun w' _ => toField g w') (fun x3 => ?_)
  refine rel_call _ 5 #[.agg (fcells f), .agg (fcells g)] rfl rfl rfl rfl (enters_of Try.func5 (by kernel_rfl) rfl) (fun w' _ => spec2 f g hf hg w') (fun x4 => ?_)
  refine rel_val _ rfl rfl (fun _ _ => rfl) (fun x5 => ?_)
  refine rel_nil (fun W1 inv => ?_)
  simp only [Act.put, List.setIfInBounds_toArray, List.set_cons_zero, List.set_cons_succ]
  have M1 := inv.cls
  clear M inv
  go_upto_region 2 with (fail)
  refine wp_region_rel (DL [dV (.agg (fcells f)), dV (.agg (fcells f)), dV (.agg (fcells g)), dV (.agg (fcells g)), dV (.bool (feq f g)), dV (.bool (feq f g))]) (fun w' => Mem w w' [⟨w.heap.size, fcells f, 27⟩, ⟨w.heap.size + 1, fcells g, 27⟩]) (by kernel_rfl) (by kernel_rfl) grows_mem
    (stays_DL (fun d hd => by
      simp only [List.mem_cons, List.mem_nil_iff, or_false] at hd
      rcases hd with rfl | rfl | rfl | rfl | rfl | rfl <;> exact stay_V)) M1.drew ?_
  refine rel_load 27 _ rfl w.heap.size 0 rfl (fcells f) _ rfl rfl (fun w' hw' => (hw'.at 0 rfl).whole) Try.underlying27 rfl (by rw [fcells_size]; exact sizeFl) (fun x0 => ?_)
  refine rel_call _ 6 #[.agg (fcells f)] rfl rfl rfl rfl (enters_of Try.func6 (by kernel_rfl) rfl) (fun w' _ => toField f w') (fun x1 => ?_)
  refine rel_load 27 _ rfl (w.heap.size + 1) 0 rfl (fcells g) _ rfl rfl (fun w' hw' => (hw'.at 1 rfl).whole) Try.underlying27 rfl (by rw [fcells_size]; exact sizeFl) (fun x2 => ?_)
  refine rel_call _ 6 #[.agg (fcells g)] rfl rfl rfl rfl (enters_of Try.func6 (by kernel_rfl) rfl) (fun w' _ => toField g w') (fun x3 => ?_)
  refine rel_call _ 7 #[.agg (fcells f), .agg (fcells g)] rfl rfl rfl rfl (enters_of Try.func7 (by kernel_rfl) rfl) (fun w' _ => impl2 f g hf hg w') (fun x4 => ?_)
  refine rel_val _ rfl rfl (fun _ _ => rfl) (fun x5 => ?_)
  refine rel_nil (fun W2 inv => ?_)
  simp only [Act.put, List.setIfInBounds_toArray, List.set_cons_zero, List.set_cons_succ]
  have M2 := inv.cls
  clear M1 inv
  go_wp2_with (fail)
  go_ret
  exact ⟨rfl, M2.below⟩

set_option maxRecDepth 100000 in
theorem lifted (os : Os) (started : os.Started) (H : Type) (enc : TypeId × Value → H) :
    ReturnsInHanded {} Try.checked os 3 .any (Rows.fnExactSameFieldSpec.pre6 enc Try.prog Try.f3 Rows.fnExactSameFieldRow.domain false) (Rows.fnExactSameFieldSpec.post enc Try.prog Try.f3 false true false false) := by
  refine returnsInHanded_of_change (C := Try.checked) own started (by kernel_rfl) Try.func3
    (ChangeSpec.witness6 (enc := enc) (C := Try.checked) false ⟨#[], #[.agg (fcells Fd.zero), .agg (fcells Fd.zero)], []⟩ 8 (by kernel_rfl) (by kernel_rfl) (by kernel_rfl) (by kernel_rfl)) ?_
  intro W base args ds gs before hval0 hW hcnd _
  have hval : ∀ (j : Nat) t v, Try.f3.params[j]? = some t → args[j]? = some v → Value.okWide Try.prog W .any base t v := hval0
  have hW' := hW
  obtain ⟨p, q, hA0, hV, rfl, hfz, hnd⟩ := hW
  have hA : DataW.TrodAll enc Try.prog W 0 (fun _ => true) true Try.f3.params.toList args.toList ds p := hA0
  rw [Try.params3] at hA hval
  obtain ⟨v0, vs0, d0, ds0, p0, q0, hargs, rfl, rfl, h0, r0⟩ := trodAll_cons hA
  obtain ⟨v1, vs1, d1, ds1, p1, q1, rfl, rfl, rfl, h1, r1⟩ := trodAll_cons r0
  obtain ⟨rfl, rfl, rfl⟩ := trodAll_nil r1
  obtain rfl : args = #[v0, v1] := by cases args; simp_all
  obtain ⟨rfl, rfl⟩ := trodVars_none hV
  have k0 := h0
  have lt0 : ∀ x ∈ p0, x.block < W.heap.size := by obtain ⟨m, hm⟩ := k0; exact DataW.trod_lt m _ _ _ hm
  have k1 := h1
  have lt1 : ∀ x ∈ p1, x.block < W.heap.size := by obtain ⟨m, hm⟩ := k1; exact DataW.trod_lt m _ _ _ hm
  obtain ⟨f0, rfl, hf0⟩ := open_field (fs := Try.prog.fieldsOf 27) (by kernel_rfl) (by kernel_rfl) Try.underlying22 Try.underlying23 Try.underlying5 Try.underlying25 Try.underlying24 (by kernel_rfl) (by kernel_rfl) (by kernel_rfl) (by kernel_rfl) (by kernel_rfl) (by kernel_rfl) (hval 0 27 v0 rfl rfl) h0
  obtain ⟨f1, rfl, hf1⟩ := open_field (fs := Try.prog.fieldsOf 27) (by kernel_rfl) (by kernel_rfl) Try.underlying22 Try.underlying23 Try.underlying5 Try.underlying25 Try.underlying24 (by kernel_rfl) (by kernel_rfl) (by kernel_rfl) (by kernel_rfl) (by kernel_rfl) (by kernel_rfl) (hval 1 27 v1 rfl rfl) h1
  clear hA0 hval0
  refine (walk f0 hf0 f1 hf1 W).mono fun e W' ⟨he, bel⟩ => ?_
  subst he
  exact ⟨_, rfl, _, _, _, [], _, [], hW', trodAll_mk1 (shut_bool Try.underlying4 _), (trodAll_cons_mk (Below.trod laidOut (by kernel_rfl) (of_decide_eq_true (by kernel_rfl)) k0 bel lt0) (trodAll_cons_mk (Below.trod laidOut (by kernel_rfl) (of_decide_eq_true (by kernel_rfl)) k1 bel lt1) trodAll_mk0)), rfl, bel.frame _, fun h => by cases h⟩

theorem over : Rows.fnExactSameFieldRow.holds Try.pinned (OpenSpec.ofChange Rows.fnExactSameFieldSpec) :=
  OpenClaim.holds_of_wide 3 Try.f3 rfl rfl rfl rfl rfl rfl rfl ⟨rfl, rfl, rfl, rfl, rfl⟩ rfl rfl rfl rfl rfl (by kernel_rfl) Try.func3 (by kernel_rfl)
    (of_decide_eq_true (by kernel_rfl)) (by unfold Func.isWrapper; first | (rw [if_pos (by decide +kernel)]; kernel_rfl) | (rw [if_neg (by decide +kernel)]; exact ⟨rfl, rfl⟩))
    (fun os started H enc _ => lifted os started H enc)

theorem proved : Rows.FnExactSameFieldSaid := over
#print axioms proved

end Go.Proofs.Ytfnpbpokieckcaa.lawSameField
