/-
  For every two words and every number, the program's HasCell answers as the model's: no condition.
-/
import Derived.Test.YtbhmndokjjaffabSets
import Derived.Test.YtbhmndokjjaffabOpen
import Derived.Test.YtbhmndokjjaffabRows
import Derived.ChangeOld
import Derived.Below
namespace Go.Proofs.Ytbhmndokjjaffab.lawHasCell
open Go.ChangeShapes Go.WideShapes Go.ChangeAt Go.RowKit

theorem own : ownKnob Try.prog.godebug = none := by kernel_rfl
theorem laidOut : laidOutB Try.prog = true := by kernel_rfl

set_option maxRecDepth 100000 in
set_option maxHeartbeats 1000000 in
theorem walk (f : Nat → Int) (_ : ∀ i, i < 2 → (Lit.int .u64 (f i)).wf = true) (c : Int) (_ : (Lit.int .i64 c).wf = true) (w : World) : Calls Try.prog 3 #[.agg (acells .u64 2 f), .int .i64 c] w fun e w' => e = .returned (.bool true) ∧ Below w.heap.size w w' := by
  go_enter Try.func3, Try.ntmps3
  go_upto_region 1 with (fail)
  obtain ⟨W, hW, M⟩ := open1 w (acells .u64 2 f) 23
  rw [hW]; clear hW
  go_upto_region 2 with (first
    | (refine wpList_load_part rfl 23 _ rfl w.heap.size 0 rfl (acells .u64 2 f) _ (M.at 0 rfl).whole Try.underlying23 rfl (by rw [acells_size]; exact sizeA) ?_)
    | (go_at_call 10; refine (toCells _ _).mono ?_; rintro e W1 ⟨rfl, hb⟩; have M1 := M.call hb; clear M hb)
    | (go_at_call 9; refine (specHasCell _ _ _).mono ?_; rintro e W2 ⟨rfl, hb⟩; have M2 := M1.call hb; clear M1 hb))
  go_wp2_with (first
    | (refine wpList_load_part rfl 23 _ rfl w.heap.size 0 rfl (acells .u64 2 f) _ (M2.at 0 rfl).whole Try.underlying23 rfl (by rw [acells_size]; exact sizeA) ?_)
    | (go_at_call 10; refine (toCells _ _).mono ?_; rintro e W3 ⟨rfl, hb⟩; have M3 := M2.call hb; clear M2 hb)
    | (go_at_call 11; refine (hasCell_any _ _ _).mono ?_; rintro e W4 ⟨rfl, hb⟩; have M4 := M3.call hb; clear M3 hb))
  go_ret
  exact ⟨rfl, M4.below⟩

set_option maxRecDepth 100000 in
theorem lifted (os : Os) (started : os.Started) (H : Type) (enc : TypeId × Value → H) :
    ReturnsInHanded {} Try.checked os 3 .any (Rows.fnExactHasCellSpec.pre6 enc Try.prog Try.f3 Rows.fnExactHasCellRow.domain false) (Rows.fnExactHasCellSpec.post enc Try.prog Try.f3 false true false false) := by
  refine returnsInHanded_of_change (C := Try.checked) own started (by kernel_rfl) Try.func3
    (ChangeSpec.witness6 (enc := enc) (C := Try.checked) false ⟨#[], #[.agg (acells .u64 2 (fun _ => 0)), .int .i64 0], []⟩ 8 (by kernel_rfl) (by kernel_rfl) (by kernel_rfl) (by kernel_rfl)) ?_
  intro W base args ds gs before hval0 hW hcnd _
  have hval : ∀ (j : Nat) t v, Try.f3.params[j]? = some t → args[j]? = some v → Value.okWide Try.prog W .any base t v := hval0
  have hW' := hW
  obtain ⟨p, q, hA0, hV, rfl, hfz, hnd⟩ := hW
  have hA : DataW.TrodAll enc Try.prog W 0 (fun _ => true) true Try.f3.params.toList args.toList ds p := hA0
  rw [Try.params3] at hA hval
  obtain ⟨v0, vs0, d0, ds0, p0, q0, hargs, rfl, rfl, h0, r0⟩ := trodAll_cons hA
  obtain ⟨v1, vs1, d1, ds1, p1, q1, rfl, rfl, rfl, h1, r1⟩ := trodAll_cons r0
  obtain ⟨rfl, rfl, rfl⟩ := trodAll_nil r1
  obtain rfl : args = #[v0, v1] := by cases args; simp_all
  obtain ⟨rfl, rfl⟩ := trodVars_none hV
  have k0 := h0
  have lt0 : ∀ x ∈ p0, x.block < W.heap.size := by obtain ⟨m, hm⟩ := k0; exact DataW.trod_lt m _ _ _ hm
  have k1 := h1
  have lt1 : ∀ x ∈ p1, x.block < W.heap.size := by obtain ⟨m, hm⟩ := k1; exact DataW.trod_lt m _ _ _ hm
  obtain ⟨f0, rfl, hf0⟩ := open_row (q := .u64) Try.underlying23 Try.underlying22 (by kernel_rfl) (by kernel_rfl) (hval 0 23 v0 rfl rfl) h0
  obtain ⟨n1, rfl, rfl, rfl, wn1⟩ := open_int Try.underlying2 (hval 1 2 v1 rfl rfl) h1
  clear hA0 hval0
  refine (walk f0 hf0 n1 wn1 W).mono fun e W' ⟨he, bel⟩ => ?_
  subst he
  exact ⟨_, rfl, _, _, _, [], _, [], hW', trodAll_mk1 (shut_bool Try.underlying4 _), (trodAll_cons_mk (Below.trod laidOut (by kernel_rfl) (of_decide_eq_true (by kernel_rfl)) k0 bel lt0) (trodAll_cons_mk (Below.trod laidOut (by kernel_rfl) (of_decide_eq_true (by kernel_rfl)) k1 bel lt1) trodAll_mk0)), rfl, bel.frame _, fun h => by cases h⟩

theorem over : Rows.fnExactHasCellRow.holds Try.pinned (OpenSpec.ofChange Rows.fnExactHasCellSpec) :=
  OpenClaim.holds_of_wide 3 Try.f3 rfl rfl rfl rfl rfl rfl rfl ⟨rfl, rfl, rfl, rfl, rfl⟩ rfl rfl rfl rfl rfl (by kernel_rfl) Try.func3 (by kernel_rfl)
    (of_decide_eq_true (by kernel_rfl)) (by unfold Func.isWrapper; first | (rw [if_pos (by decide +kernel)]; kernel_rfl) | (rw [if_neg (by decide +kernel)]; exact ⟨rfl, rfl⟩))
    (fun os started H enc _ => lifted os started H enc)

theorem proved : Rows.FnExactHasCellSaid := over
#print axioms proved
end Go.Proofs.Ytbhmndokjjaffab.lawHasCell
