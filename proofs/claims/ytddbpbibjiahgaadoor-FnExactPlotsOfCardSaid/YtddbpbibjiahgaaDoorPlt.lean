/-
  The laws' helpers on plots.
-/
import Derived.Test.YtddbpbibjiahgaaDoorCoreB
import Derived.Outline
import Derived.Deep.DeepCutAuto
import Derived.Laws.MakeOwn
import Derived.OwnWalk
namespace Go.Proofs.YtddbpbibjiahgaaDoor
open Go Go.RowKit

abbrev ksPlot : List IntKind := [.i16, .i16, .i16, .i16]
/-- A plot's value. -/
abbrev vPlot (a : Nat → Int) : Value := .agg #[.int .i16 (a 0), .int .i16 (a 1), .int .i16 (a 2), .int .i16 (a 3)]
theorem vPlot_eq (F : Nat → Nat → Int) (i : Nat) : Value.agg (srow ksPlot F i) = vPlot (F i) := rfl
end Go.Proofs.YtddbpbibjiahgaaDoor
