/-
  The laws' helpers on scarecrows.
-/
import Derived.Test.YtidddepdjokjcaaDoorCoreB
import Derived.Outline
import Derived.Deep.DeepCutAuto
import Derived.Laws.MakeOwn
import Derived.OwnWalk
namespace Go.Proofs.YtidddepdjokjcaaDoor
open Go Go.RowKit

abbrev ksScarecrow : List IntKind := [.i16, .i16, .i8]
/-- A scarecrow's value. -/
abbrev vScarecrow (a : Nat → Int) : Value := .agg #[.int .i16 (a 0), .int .i16 (a 1), .int .i8 (a 2)]
theorem vScarecrow_eq (F : Nat → Nat → Int) (i : Nat) : Value.agg (srow ksScarecrow F i) = vScarecrow (F i) := rfl
end Go.Proofs.YtidddepdjokjcaaDoor
