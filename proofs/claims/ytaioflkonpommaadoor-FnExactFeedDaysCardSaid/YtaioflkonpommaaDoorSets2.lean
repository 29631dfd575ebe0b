/-
  Sets of cells: what is in one, in both, in the one alone.
-/
import Derived.Test.YtaioflkonpommaaDoorCoreD
namespace Go.Proofs.YtaioflkonpommaaDoor
open Go Go.RowKit

/-- The set of two words, each made of two words; bits of numbers greater than 99 are left away. -/
def opC (op : BinOp) (f g : Nat → Int) (i : Nat) : Int := if i = 0 then bits op .u64 (f 0) (g 0) else bits .and .u64 (bits op .u64 (f 1) (g 1)) 68719476735
theorem two_cellsU (f : Nat → Int) : acells .u64 2 f = #[.int .u64 (f 0), .int .u64 (f 1)] := rfl

end Go.Proofs.YtaioflkonpommaaDoor
