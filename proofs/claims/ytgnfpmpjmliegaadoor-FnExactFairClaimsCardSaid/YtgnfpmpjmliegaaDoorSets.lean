/-
  Sets of cells as two words: copies, comparisons, membership.
-/
import Derived.Test.YtgnfpmpjmliegaaDoorBase
import Derived.Deep.DeepCutAuto
import Derived.Test.YtgnfpmpjmliegaaDoorSpec0
namespace Go.Proofs.YtgnfpmpjmliegaaDoor
open Go Go.RowKit

theorem zeroC : (#[.int .u64 0, .int .u64 0] : Array Value) = acells .u64 2 (fun _ => 0) := by rfl
/-- Is the number in the set of the two words f 0, f 1? -/
def hasC (f : Nat → Int) (c : Int) : Bool := inB c 0 99 && (bits BinOp.and IntKind.u64 ((if c < 64 then f 0 else f 1) / 2 ^ (c % 64).toNat) 1 == 1)
end Go.Proofs.YtgnfpmpjmliegaaDoor
