/-
  Two rows of numbers are equal, as a Bool.
-/
import Derived.Test.YtddbpbibjiahgaaDoorCoreA
namespace Go.Proofs.YtddbpbibjiahgaaDoor
open Go Go.RowKit

def rowEq (n : Nat) (f g : Nat → Int) : Bool := allTo n (fun i => f i == g i)
theorem rowEq_iff {k : IntKind} {n : Nat} {f g : Nat → Int} : rowEq n f g = true ↔ acells k n f = acells k n g := by
  simp only [rowEq, allTo_iff, beq_iff_eq]
  exact ⟨fun h => acells_congr h, fun h i hi => acells_inj h i hi⟩
end Go.Proofs.YtddbpbibjiahgaaDoor
