/-
  The laws' helpers on flocks.
-/
import Derived.Test.YtgadjnddllaejaaDoorCoreB
import Derived.Outline
import Derived.Deep.DeepCutAuto
import Derived.Laws.MakeOwn
import Derived.OwnWalk
namespace Go.Proofs.YtgadjnddllaejaaDoor
open Go Go.RowKit

abbrev ksFlock : List IntKind := [.i16, .i16, .i16, .i16, .i16, .i8]
/-- A flock's value. -/
abbrev vFlock (a : Nat → Int) : Value := .agg #[.int .i16 (a 0), .int .i16 (a 1), .int .i16 (a 2), .int .i16 (a 3), .int .i16 (a 4), .int .i8 (a 5)]
theorem vFlock_eq (F : Nat → Nat → Int) (i : Nat) : Value.agg (srow ksFlock F i) = vFlock (F i) := rfl
end Go.Proofs.YtgadjnddllaejaaDoor
