/-
  DERIVED. GIVEN WITH THE SEED: THE PROGRAM's TIES (one call each: nine closed facts by the kernel) AND EACH ROW's TIE, after the 31st guide's Derived/Test/Toyas{Tie, Card}.lean. No idea stands in it: it is a product of the set-up. Laid BY PROGRAM, IN A SANDBOX (cutbox-door.mjs). By AI agents, Wed Nov 11 2026. No macro, syntax, notation, axiom, sorry.
-/
import Derived.Test.YtaioflkonpommaaDoorRows
import Derived.LaidByTextLater
import Derived.SevenTiedAt
import Derived.LaidSub
import Derived.LaidOnce
namespace Go.Proofs.YtaioflkonpommaaDoor
open Go
set_option maxRecDepth 100000
theorem seatTie1 : Tryd.prog.laidByTextLater [("loop.example/g01338/impl.errInvalid", Rows.laid_loop_example_g01338_impl_errInvalid), ("loop.example/g01338/impl.errRange", Rows.laid_loop_example_g01338_impl_errRange), ("loop.example/g01338/impl.errLimit", Rows.laid_loop_example_g01338_impl_errLimit), ("loop.example/g01338/impl.errState", Rows.laid_loop_example_g01338_impl_errState), ("loop.example/g01338/impl.errSyntax", Rows.laid_loop_example_g01338_impl_errSyntax), ("loop.example/g01338/impl.errNotFound", Rows.laid_loop_example_g01338_impl_errNotFound), ("loop.example/g01338/impl.errBudget", Rows.laid_loop_example_g01338_impl_errBudget), ("loop.example/g01338/impl.errProof", Rows.laid_loop_example_g01338_impl_errProof), ("loop.example/g01338/impl.mostOfFlock", Rows.laid_loop_example_g01338_impl_mostOfFlock)] [.sentinel, .sentinel, .sentinel, .sentinel, .sentinel, .sentinel, .sentinel, .sentinel, .data] true :=
  Program.laidByTextLater_by_one 166 8 7 (by kernel_rfl) (by kernel_rfl) (by kernel_rfl) (by kernel_rfl) (by kernel_rfl) (by kernel_rfl) (fun _ _ => by kernel_rfl)
theorem noOwnUnsafe : Tryd.pinned.checked.prog.headLifts.contains "ownunsafe" = false := by kernel_rfl
theorem tie : Tryd.prog.laidByTextLater [("loop.example/g01338/impl.errInvalid", Rows.laid_loop_example_g01338_impl_errInvalid), ("loop.example/g01338/impl.errRange", Rows.laid_loop_example_g01338_impl_errRange), ("loop.example/g01338/impl.errLimit", Rows.laid_loop_example_g01338_impl_errLimit), ("loop.example/g01338/impl.errState", Rows.laid_loop_example_g01338_impl_errState), ("loop.example/g01338/impl.errSyntax", Rows.laid_loop_example_g01338_impl_errSyntax), ("loop.example/g01338/impl.errNotFound", Rows.laid_loop_example_g01338_impl_errNotFound), ("loop.example/g01338/impl.errBudget", Rows.laid_loop_example_g01338_impl_errBudget), ("loop.example/g01338/impl.errProof", Rows.laid_loop_example_g01338_impl_errProof), ("loop.example/g01338/impl.mostOfFlock", Rows.laid_loop_example_g01338_impl_mostOfFlock)] [.sentinel, .sentinel, .sentinel, .sentinel, .sentinel, .sentinel, .sentinel, .sentinel, .data] true :=
  Program.laidByTextLater.sub seatTie1 ["loop.example/g01338/impl.errInvalid", "loop.example/g01338/impl.errRange", "loop.example/g01338/impl.errLimit", "loop.example/g01338/impl.errState", "loop.example/g01338/impl.errSyntax", "loop.example/g01338/impl.errNotFound", "loop.example/g01338/impl.errBudget", "loop.example/g01338/impl.errProof", "loop.example/g01338/impl.mostOfFlock"] (by kernel_rfl) (by kernel_rfl)
theorem fnExactEatOnce_row_tie : Rows.fnExactEatOnceRow.laidByTextAt .later Tryd.pinned [.sentinel, .sentinel, .sentinel, .sentinel, .sentinel, .sentinel, .sentinel, .sentinel, .data] true :=
  OpenClaim.laidByTextAt_later rfl rfl tie noOwnUnsafe
theorem fnExactFeedFlock_row_tie : Rows.fnExactFeedFlockRow.laidByTextAt .later Tryd.pinned [.sentinel, .sentinel, .sentinel, .sentinel, .sentinel, .sentinel, .sentinel, .sentinel, .data] true :=
  OpenClaim.laidByTextAt_later rfl rfl tie noOwnUnsafe
theorem fnExactFeedAll_row_tie : Rows.fnExactFeedAllRow.laidByTextAt .later Tryd.pinned [.sentinel, .sentinel, .sentinel, .sentinel, .sentinel, .sentinel, .sentinel, .sentinel, .data] true :=
  OpenClaim.laidByTextAt_later rfl rfl tie noOwnUnsafe
theorem fnExactFeedDays_row_tie : Rows.fnExactFeedDaysRow.laidByTextAt .later Tryd.pinned [.sentinel, .sentinel, .sentinel, .sentinel, .sentinel, .sentinel, .sentinel, .sentinel, .data] true :=
  OpenClaim.laidByTextAt_later rfl rfl tie noOwnUnsafe
theorem fnExactEatenBy_row_tie : Rows.fnExactEatenByRow.laidByTextAt .later Tryd.pinned [.sentinel, .sentinel, .sentinel, .sentinel, .sentinel, .sentinel, .sentinel, .sentinel, .data] true :=
  OpenClaim.laidByTextAt_later rfl rfl tie noOwnUnsafe
theorem fnExactStillHungry_row_tie : Rows.fnExactStillHungryRow.laidByTextAt .later Tryd.pinned [.sentinel, .sentinel, .sentinel, .sentinel, .sentinel, .sentinel, .sentinel, .sentinel, .data] true :=
  OpenClaim.laidByTextAt_later rfl rfl tie noOwnUnsafe
theorem fnExactEatOnceUpto_row_tie : Rows.fnExactEatOnceUptoRow.laidByTextAt .later Tryd.pinned [.sentinel, .sentinel, .sentinel, .sentinel, .sentinel, .sentinel, .sentinel, .sentinel, .data] true :=
  OpenClaim.laidByTextAt_later rfl rfl tie noOwnUnsafe
theorem fnExactFeedFlockUpto_row_tie : Rows.fnExactFeedFlockUptoRow.laidByTextAt .later Tryd.pinned [.sentinel, .sentinel, .sentinel, .sentinel, .sentinel, .sentinel, .sentinel, .sentinel, .data] true :=
  OpenClaim.laidByTextAt_later rfl rfl tie noOwnUnsafe
theorem fnExactFeedAllUpto_row_tie : Rows.fnExactFeedAllUptoRow.laidByTextAt .later Tryd.pinned [.sentinel, .sentinel, .sentinel, .sentinel, .sentinel, .sentinel, .sentinel, .sentinel, .data] true :=
  OpenClaim.laidByTextAt_later rfl rfl tie noOwnUnsafe
theorem fnExactFeedDaysUpto_row_tie : Rows.fnExactFeedDaysUptoRow.laidByTextAt .later Tryd.pinned [.sentinel, .sentinel, .sentinel, .sentinel, .sentinel, .sentinel, .sentinel, .sentinel, .data] true :=
  OpenClaim.laidByTextAt_later rfl rfl tie noOwnUnsafe
theorem fnExactEatenByUpto_row_tie : Rows.fnExactEatenByUptoRow.laidByTextAt .later Tryd.pinned [.sentinel, .sentinel, .sentinel, .sentinel, .sentinel, .sentinel, .sentinel, .sentinel, .data] true :=
  OpenClaim.laidByTextAt_later rfl rfl tie noOwnUnsafe
theorem fnExactStillHungryUpto_row_tie : Rows.fnExactStillHungryUptoRow.laidByTextAt .later Tryd.pinned [.sentinel, .sentinel, .sentinel, .sentinel, .sentinel, .sentinel, .sentinel, .sentinel, .data] true :=
  OpenClaim.laidByTextAt_later rfl rfl tie noOwnUnsafe
end Go.Proofs.YtaioflkonpommaaDoor
