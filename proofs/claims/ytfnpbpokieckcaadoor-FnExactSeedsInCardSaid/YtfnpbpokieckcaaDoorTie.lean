/-
  DERIVED. GIVEN WITH THE SEED: THE PROGRAM's TIES (one call each: nine closed facts by the kernel) AND EACH ROW's TIE, after the 31st guide's Derived/Test/Toyas{Tie, Card}.lean. No idea stands in it: it is a product of the set-up. Laid BY PROGRAM, IN A SANDBOX (cutbox-door.mjs). By AI agents, Wed Nov 11 2026. No macro, syntax, notation, axiom, sorry.
-/
import Derived.Test.YtfnpbpokieckcaaDoorRows
import Derived.LaidByTextLater
import Derived.SevenTiedAt
import Derived.LaidSub
import Derived.LaidOnce
namespace Go.Proofs.YtfnpbpokieckcaaDoor
open Go
set_option maxRecDepth 100000
theorem seatTie1 : Tryd.prog.laidByTextLater [("loop.example/g01338/impl.errInvalid", Rows.laid_loop_example_g01338_impl_errInvalid), ("loop.example/g01338/impl.errRange", Rows.laid_loop_example_g01338_impl_errRange), ("loop.example/g01338/impl.errLimit", Rows.laid_loop_example_g01338_impl_errLimit), ("loop.example/g01338/impl.errState", Rows.laid_loop_example_g01338_impl_errState), ("loop.example/g01338/impl.errSyntax", Rows.laid_loop_example_g01338_impl_errSyntax), ("loop.example/g01338/impl.errNotFound", Rows.laid_loop_example_g01338_impl_errNotFound), ("loop.example/g01338/impl.errBudget", Rows.laid_loop_example_g01338_impl_errBudget), ("loop.example/g01338/impl.errProof", Rows.laid_loop_example_g01338_impl_errProof), ("loop.example/g01338/impl.mostOfFlock", Rows.laid_loop_example_g01338_impl_mostOfFlock)] [.sentinel, .sentinel, .sentinel, .sentinel, .sentinel, .sentinel, .sentinel, .sentinel, .data] true :=
  Program.laidByTextLater_by_one 166 8 7 (by kernel_rfl) (by kernel_rfl) (by kernel_rfl) (by kernel_rfl) (by kernel_rfl) (by kernel_rfl) (fun _ _ => by kernel_rfl)
theorem noOwnUnsafe : Tryd.pinned.checked.prog.headLifts.contains "ownunsafe" = false := by kernel_rfl
theorem tie : Tryd.prog.laidByTextLater [("loop.example/g01338/impl.errInvalid", Rows.laid_loop_example_g01338_impl_errInvalid), ("loop.example/g01338/impl.errRange", Rows.laid_loop_example_g01338_impl_errRange), ("loop.example/g01338/impl.errLimit", Rows.laid_loop_example_g01338_impl_errLimit), ("loop.example/g01338/impl.errState", Rows.laid_loop_example_g01338_impl_errState), ("loop.example/g01338/impl.errSyntax", Rows.laid_loop_example_g01338_impl_errSyntax), ("loop.example/g01338/impl.errNotFound", Rows.laid_loop_example_g01338_impl_errNotFound), ("loop.example/g01338/impl.errBudget", Rows.laid_loop_example_g01338_impl_errBudget), ("loop.example/g01338/impl.errProof", Rows.laid_loop_example_g01338_impl_errProof)] [.sentinel, .sentinel, .sentinel, .sentinel, .sentinel, .sentinel, .sentinel, .sentinel] true :=
  Program.laidByTextLater.sub seatTie1 ["loop.example/g01338/impl.errInvalid", "loop.example/g01338/impl.errRange", "loop.example/g01338/impl.errLimit", "loop.example/g01338/impl.errState", "loop.example/g01338/impl.errSyntax", "loop.example/g01338/impl.errNotFound", "loop.example/g01338/impl.errBudget", "loop.example/g01338/impl.errProof"] (by kernel_rfl) (by kernel_rfl)
theorem fnExactWithKind_row_tie : Rows.fnExactWithKindRow.laidByTextAt .later Tryd.pinned [.sentinel, .sentinel, .sentinel, .sentinel, .sentinel, .sentinel, .sentinel, .sentinel] true :=
  OpenClaim.laidByTextAt_later rfl rfl tie noOwnUnsafe
theorem fnExactSowCell_row_tie : Rows.fnExactSowCellRow.laidByTextAt .later Tryd.pinned [.sentinel, .sentinel, .sentinel, .sentinel, .sentinel, .sentinel, .sentinel, .sentinel] true :=
  OpenClaim.laidByTextAt_later rfl rfl tie noOwnUnsafe
theorem fnExactTakeSeeds_row_tie : Rows.fnExactTakeSeedsRow.laidByTextAt .later Tryd.pinned [.sentinel, .sentinel, .sentinel, .sentinel, .sentinel, .sentinel, .sentinel, .sentinel] true :=
  OpenClaim.laidByTextAt_later rfl rfl tie noOwnUnsafe
theorem fnExactSeedsIn_row_tie : Rows.fnExactSeedsInRow.laidByTextAt .later Tryd.pinned [.sentinel, .sentinel, .sentinel, .sentinel, .sentinel, .sentinel, .sentinel, .sentinel] true :=
  OpenClaim.laidByTextAt_later rfl rfl tie noOwnUnsafe
theorem tie2 : Tryd.prog.laidByTextLater [("loop.example/g01338/impl.errInvalid", Rows.laid_loop_example_g01338_impl_errInvalid), ("loop.example/g01338/impl.errRange", Rows.laid_loop_example_g01338_impl_errRange), ("loop.example/g01338/impl.errLimit", Rows.laid_loop_example_g01338_impl_errLimit), ("loop.example/g01338/impl.errState", Rows.laid_loop_example_g01338_impl_errState), ("loop.example/g01338/impl.errSyntax", Rows.laid_loop_example_g01338_impl_errSyntax), ("loop.example/g01338/impl.errNotFound", Rows.laid_loop_example_g01338_impl_errNotFound), ("loop.example/g01338/impl.errBudget", Rows.laid_loop_example_g01338_impl_errBudget), ("loop.example/g01338/impl.errProof", Rows.laid_loop_example_g01338_impl_errProof), ("loop.example/g01338/impl.mostOfFlock", Rows.laid_loop_example_g01338_impl_mostOfFlock)] [.sentinel, .sentinel, .sentinel, .sentinel, .sentinel, .sentinel, .sentinel, .sentinel, .data] true :=
  Program.laidByTextLater.sub seatTie1 ["loop.example/g01338/impl.errInvalid", "loop.example/g01338/impl.errRange", "loop.example/g01338/impl.errLimit", "loop.example/g01338/impl.errState", "loop.example/g01338/impl.errSyntax", "loop.example/g01338/impl.errNotFound", "loop.example/g01338/impl.errBudget", "loop.example/g01338/impl.errProof", "loop.example/g01338/impl.mostOfFlock"] (by kernel_rfl) (by kernel_rfl)
theorem fnExactHungerOf_row_tie : Rows.fnExactHungerOfRow.laidByTextAt .later Tryd.pinned [.sentinel, .sentinel, .sentinel, .sentinel, .sentinel, .sentinel, .sentinel, .sentinel, .data] true :=
  OpenClaim.laidByTextAt_later rfl rfl tie2 noOwnUnsafe
theorem fnExactBirdsIn_row_tie : Rows.fnExactBirdsInRow.laidByTextAt .later Tryd.pinned [.sentinel, .sentinel, .sentinel, .sentinel, .sentinel, .sentinel, .sentinel, .sentinel, .data] true :=
  OpenClaim.laidByTextAt_later rfl rfl tie2 noOwnUnsafe
theorem tie3 : Tryd.prog.laidByTextLater [("loop.example/g01338/impl.errRange", Rows.laid_loop_example_g01338_impl_errRange), ("loop.example/g01338/impl.errState", Rows.laid_loop_example_g01338_impl_errState)] [.sentinel, .sentinel] true :=
  Program.laidByTextLater.sub seatTie1 ["loop.example/g01338/impl.errRange", "loop.example/g01338/impl.errState"] (by kernel_rfl) (by kernel_rfl)
theorem fnExactValidScares_row_tie : Rows.fnExactValidScaresRow.laidByTextAt .later Tryd.pinned [.sentinel, .sentinel] true :=
  OpenClaim.laidByTextAt_later rfl rfl tie3 noOwnUnsafe
theorem fnExactWithKindUpto_row_tie : Rows.fnExactWithKindUptoRow.laidByTextAt .later Tryd.pinned [.sentinel, .sentinel, .sentinel, .sentinel, .sentinel, .sentinel, .sentinel, .sentinel] true :=
  OpenClaim.laidByTextAt_later rfl rfl tie noOwnUnsafe
theorem fnExactSowCellUpto_row_tie : Rows.fnExactSowCellUptoRow.laidByTextAt .later Tryd.pinned [.sentinel, .sentinel, .sentinel, .sentinel, .sentinel, .sentinel, .sentinel, .sentinel] true :=
  OpenClaim.laidByTextAt_later rfl rfl tie noOwnUnsafe
theorem fnExactTakeSeedsUpto_row_tie : Rows.fnExactTakeSeedsUptoRow.laidByTextAt .later Tryd.pinned [.sentinel, .sentinel, .sentinel, .sentinel, .sentinel, .sentinel, .sentinel, .sentinel] true :=
  OpenClaim.laidByTextAt_later rfl rfl tie noOwnUnsafe
theorem fnExactSeedsInUpto_row_tie : Rows.fnExactSeedsInUptoRow.laidByTextAt .later Tryd.pinned [.sentinel, .sentinel, .sentinel, .sentinel, .sentinel, .sentinel, .sentinel, .sentinel] true :=
  OpenClaim.laidByTextAt_later rfl rfl tie noOwnUnsafe
theorem fnExactHungerOfUpto_row_tie : Rows.fnExactHungerOfUptoRow.laidByTextAt .later Tryd.pinned [.sentinel, .sentinel, .sentinel, .sentinel, .sentinel, .sentinel, .sentinel, .sentinel, .data] true :=
  OpenClaim.laidByTextAt_later rfl rfl tie2 noOwnUnsafe
theorem fnExactBirdsInUpto_row_tie : Rows.fnExactBirdsInUptoRow.laidByTextAt .later Tryd.pinned [.sentinel, .sentinel, .sentinel, .sentinel, .sentinel, .sentinel, .sentinel, .sentinel, .data] true :=
  OpenClaim.laidByTextAt_later rfl rfl tie2 noOwnUnsafe
theorem fnExactValidScaresUpto_row_tie : Rows.fnExactValidScaresUptoRow.laidByTextAt .later Tryd.pinned [.sentinel, .sentinel] true :=
  OpenClaim.laidByTextAt_later rfl rfl tie3 noOwnUnsafe
end Go.Proofs.YtfnpbpokieckcaaDoor
