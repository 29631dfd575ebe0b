/-
  For every two words the program's CountCells answers as the model's: no condition.
-/
import Derived.Test.YtbhmndokjjaffabCount
import Derived.Test.YtbhmndokjjaffabOpen
import Derived.Test.YtbhmndokjjaffabRows
import Derived.ChangeOld
import Derived.Below
namespace Go.Proofs.Ytbhmndokjjaffab.lawCountCells
open Go.ChangeShapes Go.WideShapes Go.ChangeAt Go.RowKit

theorem own : ownKnob Try.prog.godebug = none := by kernel_rfl
theorem laidOut : laidOutB Try.prog = true := by kernel_rfl

set_option maxRecDepth 100000 in
set_option maxHeartbeats 1000000 in
theorem walk (f : Nat → Int) (hf : ∀ i, i < 2 → (Lit.int .u64 (f i)).wf = true) (w : World) : Calls Try.prog 4 #[.agg (acells .u64 2 f)] w fun e w' => e = .returned (.bool true) ∧ Below w.heap.size w w' := by
  go_enter Try.func4, Try.ntmps4
  go_upto_region 1 with (fail)
  obtain ⟨W, hW, M⟩ := open1 w (acells .u64 2 f) 23
  rw [hW]; clear hW
  go_upto_region 2 with (first
    | (refine wpList_load_part rfl 23 _ rfl w.heap.size 0 rfl (acells .u64 2 f) _ (M.at 0 rfl).whole Try.underlying23 rfl (by rw [acells_size]; exact sizeA) ?_)
    | (go_at_call 10; refine (toCells _ _).mono ?_; rintro e W1 ⟨rfl, hb⟩; have M1 := M.call hb; clear M hb)
    | (go_at_call 12; refine (specCountCells _ _).mono ?_; rintro e W2 ⟨rfl, hb⟩; have M2 := M1.call hb; clear M1 hb))
  go_wp2_with (first
    | (refine wpList_load_part rfl 23 _ rfl w.heap.size 0 rfl (acells .u64 2 f) _ (M2.at 0 rfl).whole Try.underlying23 rfl (by rw [acells_size]; exact sizeA) ?_)
    | (go_at_call 10; refine (toCells _ _).mono ?_; rintro e W3 ⟨rfl, hb⟩; have M3 := M2.call hb; clear M2 hb)
    | (go_at_call 13; refine (countCells_any _ hf _).mono ?_; rintro e W4 ⟨rfl, hb⟩; have M4 := M3.call hb; clear M3 hb))
  go_ret
  exact ⟨rfl, M4.below⟩

set_option maxRecDepth 100000 in
theorem lifted (os : Os) (started : os.Started) (H : Type) (enc : TypeId × Value → H) :
    ReturnsInHanded {} Try.checked os 4 .any (Rows.fnExactCountCellsSpec.pre6 enc Try.prog Try.f4 Rows.fnExactCountCellsRow.domain false) (Rows.fnExactCountCellsSpec.post enc Try.prog Try.f4 false true false false) := by
  refine returnsInHanded_of_change (C := Try.checked) own started (by kernel_rfl) Try.func4
    (ChangeSpec.witness6 (enc := enc) (C := Try.checked) false ⟨#[], #[.agg (acells .u64 2 (fun _ => 0))], []⟩ 8 (by kernel_rfl) (by kernel_rfl) (by kernel_rfl) (by kernel_rfl)) ?_
  intro W base args ds gs before hval0 hW hcnd _
  have hval : ∀ (j : Nat) t v, Try.f4.params[j]? = some t → args[j]? = some v → Value.okWide Try.prog W .any base t v := hval0
  have hW' := hW
  obtain ⟨p, q, hA0, hV, rfl, hfz, hnd⟩ := hW
  have hA : DataW.TrodAll enc Try.prog W 0 (fun _ => true) true Try.f4.params.toList args.toList ds p := hA0
  rw [Try.params4] at hA hval
  obtain ⟨v0, vs0, d0, ds0, p0, q0, hargs, rfl, rfl, h0, r0⟩ := trodAll_cons hA
  obtain ⟨rfl, rfl, rfl⟩ := trodAll_nil r0
  obtain rfl : args = #[v0] := by cases args; simp_all
  obtain ⟨rfl, rfl⟩ := trodVars_none hV
  have k0 := h0
  have lt0 : ∀ x ∈ p0, x.block < W.heap.size := by obtain ⟨m, hm⟩ := k0; exact DataW.trod_lt m _ _ _ hm
  obtain ⟨f0, rfl, hf0⟩ := open_row (q := .u64) Try.underlying23 Try.underlying22 (by kernel_rfl) (by kernel_rfl) (hval 0 23 v0 rfl rfl) h0
  clear hA0 hval0
  refine (walk f0 hf0 W).mono fun e W' ⟨he, bel⟩ => ?_
  subst he
  exact ⟨_, rfl, _, _, _, [], _, [], hW', trodAll_mk1 (shut_bool Try.underlying4 _), (trodAll_cons_mk (Below.trod laidOut (by kernel_rfl) (of_decide_eq_true (by kernel_rfl)) k0 bel lt0) trodAll_mk0), rfl, bel.frame _, fun h => by cases h⟩

theorem over : Rows.fnExactCountCellsRow.holds Try.pinned (OpenSpec.ofChange Rows.fnExactCountCellsSpec) :=
  OpenClaim.holds_of_wide 4 Try.f4 rfl rfl rfl rfl rfl rfl rfl ⟨rfl, rfl, rfl, rfl, rfl⟩ rfl rfl rfl rfl rfl (by kernel_rfl) Try.func4 (by kernel_rfl)
    (of_decide_eq_true (by kernel_rfl)) (by unfold Func.isWrapper; first | (rw [if_pos (by decide +kernel)]; kernel_rfl) | (rw [if_neg (by decide +kernel)]; exact ⟨rfl, rfl⟩))
    (fun os started H enc _ => lifted os started H enc)

theorem proved : Rows.FnExactCountCellsSaid := over
#print axioms proved

end Go.Proofs.Ytbhmndokjjaffab.lawCountCells
