/-
  Lists of scarecrows compared: the model's way, the program's.
-/
import Derived.Test.YtlmgaiimknlnaaaDoorScr
import Derived.Test.YtlmgaiimknlnaaaDoorStrEq
import Derived.Test.YtlmgaiimknlnaaaDoorFlkEq
namespace Go.Proofs.YtlmgaiimknlnaaaDoor
open Go Go.RowKit

end Go.Proofs.YtlmgaiimknlnaaaDoor
