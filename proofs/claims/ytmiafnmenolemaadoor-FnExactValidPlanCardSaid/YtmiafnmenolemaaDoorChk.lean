/-
  The program's checks of fields and cells.
-/
import Derived.Test.YtmiafnmenolemaaDoorValid
import Derived.Test.YtmiafnmenolemaaDoorErr
import Derived.Test.YtmiafnmenolemaaDoorMapKey
import Derived.Test.YtmiafnmenolemaaDoorIn
import Derived.DeepKeys3
import Derived.Outline
import Derived.OwnWalk
import Derived.Maps.OwnOps
namespace Go.Proofs.YtmiafnmenolemaaDoor
open Go Go.RowKit

/-- The sentinel of what is not valid alone. -/
structure Sent1 (w : World) (A : Nat → Addr) : Prop where
  v1 : w.cell? ⟨1, 0, none⟩ = some (errVal (A 1))
theorem Sent1.later {w w' : World} {A : Nat → Addr} (h : Sent1 w A) (hb : Below w.heap.size w w') : Sent1 w' A := ⟨cell_later h.v1 hb⟩
theorem Sents.one {w : World} {A : Nat → Addr} (h : Sents w A) : Sent1 w A := ⟨h.v1⟩
def errIf (A : Nat → Addr) (k : Nat) (ok : Bool) : Value := if ok then .nilIface else errVal (A k)

end Go.Proofs.YtmiafnmenolemaaDoor
