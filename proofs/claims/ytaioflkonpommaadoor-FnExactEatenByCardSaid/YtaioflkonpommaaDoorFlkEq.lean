/-
  Lists of flocks compared: the model's way, the program's.
-/
import Derived.Test.YtaioflkonpommaaDoorFlk
import Derived.Test.YtaioflkonpommaaDoorCoreB
namespace Go.Proofs.YtaioflkonpommaaDoor
open Go Go.RowKit

def lseq (ks : List IntKind) (n : Nat) (F : Nat → Nat → Int) (m : Nat) (G : Nat → Nat → Int) : Bool := n == m && allTo n (fun i => seq ks.length (F i) (G i))
/-- Each number fits its kind. -/
def WfS (ks : List IntKind) (n : Nat) (F : Nat → Nat → Int) : Prop := ∀ i, i < n → ∀ j, j < ks.length → (Lit.int (ks.getD j .i64) (F i j)).wf = true

end Go.Proofs.YtaioflkonpommaaDoor
