/-
  DERIVED. GIVEN WITH THE SEED: THE PROGRAM's TIES (one call each: nine closed facts by the kernel) AND EACH ROW's TIE, after the 31st guide's Derived/Test/Toyas{Tie, Card}.lean. No idea stands in it: it is a product of the set-up. Laid BY PROGRAM, IN A SANDBOX (cutbox-door.mjs). By AI agents, Wed Nov 11 2026. No macro, syntax, notation, axiom, sorry.
-/
import Derived.Test.YtmiafnmenolemaaDoorRows
import Derived.LaidByTextLater
import Derived.SevenTiedAt
import Derived.LaidSub
import Derived.LaidOnce
namespace Go.Proofs.YtmiafnmenolemaaDoor
open Go
set_option maxRecDepth 100000
theorem seatTie1 : Tryd.prog.laidByTextLater [("loop.example/g01338/impl.errInvalid", Rows.laid_loop_example_g01338_impl_errInvalid), ("loop.example/g01338/impl.errRange", Rows.laid_loop_example_g01338_impl_errRange), ("loop.example/g01338/impl.errLimit", Rows.laid_loop_example_g01338_impl_errLimit), ("loop.example/g01338/impl.errState", Rows.laid_loop_example_g01338_impl_errState), ("loop.example/g01338/impl.errSyntax", Rows.laid_loop_example_g01338_impl_errSyntax), ("loop.example/g01338/impl.errNotFound", Rows.laid_loop_example_g01338_impl_errNotFound), ("loop.example/g01338/impl.errBudget", Rows.laid_loop_example_g01338_impl_errBudget), ("loop.example/g01338/impl.errProof", Rows.laid_loop_example_g01338_impl_errProof)] [.sentinel, .sentinel, .sentinel, .sentinel, .sentinel, .sentinel, .sentinel, .sentinel] true :=
  Program.laidByTextLater_by_one 161 8 2 (by kernel_rfl) (by kernel_rfl) (by kernel_rfl) (by kernel_rfl) (by kernel_rfl) (by kernel_rfl) (fun _ _ => by kernel_rfl)
theorem noOwnUnsafe : Tryd.pinned.checked.prog.headLifts.contains "ownunsafe" = false := by kernel_rfl
theorem tie : Tryd.prog.laidByTextLater [("loop.example/g01338/impl.errInvalid", Rows.laid_loop_example_g01338_impl_errInvalid)] [.sentinel] true :=
  Program.laidByTextLater.sub seatTie1 ["loop.example/g01338/impl.errInvalid"] (by kernel_rfl) (by kernel_rfl)
theorem fnExactValidPlots_row_tie : Rows.fnExactValidPlotsRow.laidByTextAt .later Tryd.pinned [.sentinel] true :=
  OpenClaim.laidByTextAt_later rfl rfl tie noOwnUnsafe
theorem fnExactValidPlan_row_tie : Rows.fnExactValidPlanRow.laidByTextAt .later Tryd.pinned [.sentinel] true :=
  OpenClaim.laidByTextAt_later rfl rfl tie noOwnUnsafe
theorem tie2 : Tryd.prog.laidByTextLater [("loop.example/g01338/impl.errInvalid", Rows.laid_loop_example_g01338_impl_errInvalid), ("loop.example/g01338/impl.errRange", Rows.laid_loop_example_g01338_impl_errRange), ("loop.example/g01338/impl.errLimit", Rows.laid_loop_example_g01338_impl_errLimit), ("loop.example/g01338/impl.errState", Rows.laid_loop_example_g01338_impl_errState), ("loop.example/g01338/impl.errSyntax", Rows.laid_loop_example_g01338_impl_errSyntax), ("loop.example/g01338/impl.errNotFound", Rows.laid_loop_example_g01338_impl_errNotFound), ("loop.example/g01338/impl.errBudget", Rows.laid_loop_example_g01338_impl_errBudget), ("loop.example/g01338/impl.errProof", Rows.laid_loop_example_g01338_impl_errProof)] [.sentinel, .sentinel, .sentinel, .sentinel, .sentinel, .sentinel, .sentinel, .sentinel] true :=
  Program.laidByTextLater.sub seatTie1 ["loop.example/g01338/impl.errInvalid", "loop.example/g01338/impl.errRange", "loop.example/g01338/impl.errLimit", "loop.example/g01338/impl.errState", "loop.example/g01338/impl.errSyntax", "loop.example/g01338/impl.errNotFound", "loop.example/g01338/impl.errBudget", "loop.example/g01338/impl.errProof"] (by kernel_rfl) (by kernel_rfl)
theorem fnExactWorthOn_row_tie : Rows.fnExactWorthOnRow.laidByTextAt .later Tryd.pinned [.sentinel, .sentinel, .sentinel, .sentinel, .sentinel, .sentinel, .sentinel, .sentinel] true :=
  OpenClaim.laidByTextAt_later rfl rfl tie2 noOwnUnsafe
theorem fnExactBestDay_row_tie : Rows.fnExactBestDayRow.laidByTextAt .later Tryd.pinned [.sentinel, .sentinel, .sentinel, .sentinel, .sentinel, .sentinel, .sentinel, .sentinel] true :=
  OpenClaim.laidByTextAt_later rfl rfl tie2 noOwnUnsafe
theorem fnExactWorthOf_row_tie : Rows.fnExactWorthOfRow.laidByTextAt .later Tryd.pinned [.sentinel, .sentinel, .sentinel, .sentinel, .sentinel, .sentinel, .sentinel, .sentinel] true :=
  OpenClaim.laidByTextAt_later rfl rfl tie2 noOwnUnsafe
theorem fnExactLostBy_row_tie : Rows.fnExactLostByRow.laidByTextAt .later Tryd.pinned [.sentinel, .sentinel, .sentinel, .sentinel, .sentinel, .sentinel, .sentinel, .sentinel] true :=
  OpenClaim.laidByTextAt_later rfl rfl tie2 noOwnUnsafe
theorem fnExactWorthBound_row_tie : Rows.fnExactWorthBoundRow.laidByTextAt .later Tryd.pinned [.sentinel, .sentinel, .sentinel, .sentinel, .sentinel, .sentinel, .sentinel, .sentinel] true :=
  OpenClaim.laidByTextAt_later rfl rfl tie2 noOwnUnsafe
theorem fnExactValidPlotsUpto_row_tie : Rows.fnExactValidPlotsUptoRow.laidByTextAt .later Tryd.pinned [.sentinel] true :=
  OpenClaim.laidByTextAt_later rfl rfl tie noOwnUnsafe
theorem fnExactWorthOnUpto_row_tie : Rows.fnExactWorthOnUptoRow.laidByTextAt .later Tryd.pinned [.sentinel, .sentinel, .sentinel, .sentinel, .sentinel, .sentinel, .sentinel, .sentinel] true :=
  OpenClaim.laidByTextAt_later rfl rfl tie2 noOwnUnsafe
theorem fnExactBestDayUpto_row_tie : Rows.fnExactBestDayUptoRow.laidByTextAt .later Tryd.pinned [.sentinel, .sentinel, .sentinel, .sentinel, .sentinel, .sentinel, .sentinel, .sentinel] true :=
  OpenClaim.laidByTextAt_later rfl rfl tie2 noOwnUnsafe
theorem fnExactValidPlanUpto_row_tie : Rows.fnExactValidPlanUptoRow.laidByTextAt .later Tryd.pinned [.sentinel] true :=
  OpenClaim.laidByTextAt_later rfl rfl tie noOwnUnsafe
theorem fnExactWorthOfUpto_row_tie : Rows.fnExactWorthOfUptoRow.laidByTextAt .later Tryd.pinned [.sentinel, .sentinel, .sentinel, .sentinel, .sentinel, .sentinel, .sentinel, .sentinel] true :=
  OpenClaim.laidByTextAt_later rfl rfl tie2 noOwnUnsafe
theorem fnExactLostByUpto_row_tie : Rows.fnExactLostByUptoRow.laidByTextAt .later Tryd.pinned [.sentinel, .sentinel, .sentinel, .sentinel, .sentinel, .sentinel, .sentinel, .sentinel] true :=
  OpenClaim.laidByTextAt_later rfl rfl tie2 noOwnUnsafe
theorem fnExactWorthBoundUpto_row_tie : Rows.fnExactWorthBoundUptoRow.laidByTextAt .later Tryd.pinned [.sentinel, .sentinel, .sentinel, .sentinel, .sentinel, .sentinel, .sentinel, .sentinel] true :=
  OpenClaim.laidByTextAt_later rfl rfl tie2 noOwnUnsafe
end Go.Proofs.YtmiafnmenolemaaDoor
