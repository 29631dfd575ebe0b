/-
  DERIVED. GIVEN WITH THE SEED: THE PROGRAM's TIES (one call each: nine closed facts by the kernel) AND EACH ROW's TIE, after the 31st guide's Derived/Test/Toyas{Tie, Card}.lean. No idea stands in it: it is a product of the set-up. Laid BY PROGRAM, IN A SANDBOX (cutbox-door.mjs). By AI agents, Wed Nov 11 2026. No macro, syntax, notation, axiom, sorry.
-/
import Derived.Test.YtdjbaajcgipebaaDoorRows
import Derived.LaidByTextLater
import Derived.SevenTiedAt
import Derived.LaidSub
import Derived.LaidOnce
namespace Go.Proofs.YtdjbaajcgipebaaDoor
open Go
set_option maxRecDepth 100000
theorem seatTie1 : Tryd.prog.laidByTextLater [("loop.example/g01338/impl.errInvalid", Rows.laid_loop_example_g01338_impl_errInvalid), ("loop.example/g01338/impl.errRange", Rows.laid_loop_example_g01338_impl_errRange), ("loop.example/g01338/impl.errLimit", Rows.laid_loop_example_g01338_impl_errLimit), ("loop.example/g01338/impl.errState", Rows.laid_loop_example_g01338_impl_errState), ("loop.example/g01338/impl.errSyntax", Rows.laid_loop_example_g01338_impl_errSyntax), ("loop.example/g01338/impl.errNotFound", Rows.laid_loop_example_g01338_impl_errNotFound), ("loop.example/g01338/impl.errBudget", Rows.laid_loop_example_g01338_impl_errBudget), ("loop.example/g01338/impl.errProof", Rows.laid_loop_example_g01338_impl_errProof)] [.sentinel, .sentinel, .sentinel, .sentinel, .sentinel, .sentinel, .sentinel, .sentinel] true :=
  Program.laidByTextLater_by_one 161 8 2 (by kernel_rfl) (by kernel_rfl) (by kernel_rfl) (by kernel_rfl) (by kernel_rfl) (by kernel_rfl) (fun _ _ => by kernel_rfl)
theorem noOwnUnsafe : Tryd.pinned.checked.prog.headLifts.contains "ownunsafe" = false := by kernel_rfl
theorem tie : Tryd.prog.laidByTextLater [("loop.example/g01338/impl.errInvalid", Rows.laid_loop_example_g01338_impl_errInvalid)] [.sentinel] true :=
  Program.laidByTextLater.sub seatTie1 ["loop.example/g01338/impl.errInvalid"] (by kernel_rfl) (by kernel_rfl)
theorem fnExactValidBeat_row_tie : Rows.fnExactValidBeatRow.laidByTextAt .later Tryd.pinned [.sentinel] true :=
  OpenClaim.laidByTextAt_later rfl rfl tie noOwnUnsafe
theorem tie2 : Tryd.prog.laidByTextLater [("loop.example/g01338/impl.errInvalid", Rows.laid_loop_example_g01338_impl_errInvalid), ("loop.example/g01338/impl.errRange", Rows.laid_loop_example_g01338_impl_errRange), ("loop.example/g01338/impl.errLimit", Rows.laid_loop_example_g01338_impl_errLimit), ("loop.example/g01338/impl.errState", Rows.laid_loop_example_g01338_impl_errState), ("loop.example/g01338/impl.errSyntax", Rows.laid_loop_example_g01338_impl_errSyntax), ("loop.example/g01338/impl.errNotFound", Rows.laid_loop_example_g01338_impl_errNotFound), ("loop.example/g01338/impl.errBudget", Rows.laid_loop_example_g01338_impl_errBudget), ("loop.example/g01338/impl.errProof", Rows.laid_loop_example_g01338_impl_errProof)] [.sentinel, .sentinel, .sentinel, .sentinel, .sentinel, .sentinel, .sentinel, .sentinel] true :=
  Program.laidByTextLater.sub seatTie1 ["loop.example/g01338/impl.errInvalid", "loop.example/g01338/impl.errRange", "loop.example/g01338/impl.errLimit", "loop.example/g01338/impl.errState", "loop.example/g01338/impl.errSyntax", "loop.example/g01338/impl.errNotFound", "loop.example/g01338/impl.errBudget", "loop.example/g01338/impl.errProof"] (by kernel_rfl) (by kernel_rfl)
theorem fnExactTurnBeat_row_tie : Rows.fnExactTurnBeatRow.laidByTextAt .later Tryd.pinned [.sentinel, .sentinel, .sentinel, .sentinel, .sentinel, .sentinel, .sentinel, .sentinel] true :=
  OpenClaim.laidByTextAt_later rfl rfl tie2 noOwnUnsafe
theorem fnExactBackBeat_row_tie : Rows.fnExactBackBeatRow.laidByTextAt .later Tryd.pinned [.sentinel, .sentinel, .sentinel, .sentinel, .sentinel, .sentinel, .sentinel, .sentinel] true :=
  OpenClaim.laidByTextAt_later rfl rfl tie2 noOwnUnsafe
theorem fnExactJoinBeats_row_tie : Rows.fnExactJoinBeatsRow.laidByTextAt .later Tryd.pinned [.sentinel, .sentinel, .sentinel, .sentinel, .sentinel, .sentinel, .sentinel, .sentinel] true :=
  OpenClaim.laidByTextAt_later rfl rfl tie2 noOwnUnsafe
theorem fnExactSeenBy_row_tie : Rows.fnExactSeenByRow.laidByTextAt .later Tryd.pinned [.sentinel, .sentinel, .sentinel, .sentinel, .sentinel, .sentinel, .sentinel, .sentinel] true :=
  OpenClaim.laidByTextAt_later rfl rfl tie2 noOwnUnsafe
theorem fnExactMinutesOf_row_tie : Rows.fnExactMinutesOfRow.laidByTextAt .later Tryd.pinned [.sentinel, .sentinel, .sentinel, .sentinel, .sentinel, .sentinel, .sentinel, .sentinel] true :=
  OpenClaim.laidByTextAt_later rfl rfl tie2 noOwnUnsafe
theorem fnExactSeenAt_row_tie : Rows.fnExactSeenAtRow.laidByTextAt .later Tryd.pinned [.sentinel, .sentinel, .sentinel, .sentinel, .sentinel, .sentinel, .sentinel, .sentinel] true :=
  OpenClaim.laidByTextAt_later rfl rfl tie2 noOwnUnsafe
theorem fnExactCheckBeat_row_tie : Rows.fnExactCheckBeatRow.laidByTextAt .later Tryd.pinned [.sentinel, .sentinel, .sentinel, .sentinel, .sentinel, .sentinel, .sentinel, .sentinel] true :=
  OpenClaim.laidByTextAt_later rfl rfl tie2 noOwnUnsafe
theorem fnExactValidBeatUpto_row_tie : Rows.fnExactValidBeatUptoRow.laidByTextAt .later Tryd.pinned [.sentinel] true :=
  OpenClaim.laidByTextAt_later rfl rfl tie noOwnUnsafe
theorem fnExactTurnBeatUpto_row_tie : Rows.fnExactTurnBeatUptoRow.laidByTextAt .later Tryd.pinned [.sentinel, .sentinel, .sentinel, .sentinel, .sentinel, .sentinel, .sentinel, .sentinel] true :=
  OpenClaim.laidByTextAt_later rfl rfl tie2 noOwnUnsafe
theorem fnExactBackBeatUpto_row_tie : Rows.fnExactBackBeatUptoRow.laidByTextAt .later Tryd.pinned [.sentinel, .sentinel, .sentinel, .sentinel, .sentinel, .sentinel, .sentinel, .sentinel] true :=
  OpenClaim.laidByTextAt_later rfl rfl tie2 noOwnUnsafe
theorem fnExactJoinBeatsUpto_row_tie : Rows.fnExactJoinBeatsUptoRow.laidByTextAt .later Tryd.pinned [.sentinel, .sentinel, .sentinel, .sentinel, .sentinel, .sentinel, .sentinel, .sentinel] true :=
  OpenClaim.laidByTextAt_later rfl rfl tie2 noOwnUnsafe
theorem fnExactSeenByUpto_row_tie : Rows.fnExactSeenByUptoRow.laidByTextAt .later Tryd.pinned [.sentinel, .sentinel, .sentinel, .sentinel, .sentinel, .sentinel, .sentinel, .sentinel] true :=
  OpenClaim.laidByTextAt_later rfl rfl tie2 noOwnUnsafe
theorem fnExactMinutesOfUpto_row_tie : Rows.fnExactMinutesOfUptoRow.laidByTextAt .later Tryd.pinned [.sentinel, .sentinel, .sentinel, .sentinel, .sentinel, .sentinel, .sentinel, .sentinel] true :=
  OpenClaim.laidByTextAt_later rfl rfl tie2 noOwnUnsafe
theorem fnExactSeenAtUpto_row_tie : Rows.fnExactSeenAtUptoRow.laidByTextAt .later Tryd.pinned [.sentinel, .sentinel, .sentinel, .sentinel, .sentinel, .sentinel, .sentinel, .sentinel] true :=
  OpenClaim.laidByTextAt_later rfl rfl tie2 noOwnUnsafe
theorem fnExactCheckBeatUpto_row_tie : Rows.fnExactCheckBeatUptoRow.laidByTextAt .later Tryd.pinned [.sentinel, .sentinel, .sentinel, .sentinel, .sentinel, .sentinel, .sentinel, .sentinel] true :=
  OpenClaim.laidByTextAt_later rfl rfl tie2 noOwnUnsafe
end Go.Proofs.YtdjbaajcgipebaaDoor
