/-
  Lists of scarecrows compared: the model's way, the program's.
-/
import Derived.Test.YtfnpbpokieckcaaDoorScr
import Derived.Test.YtfnpbpokieckcaaDoorStrEq
import Derived.Test.YtfnpbpokieckcaaDoorFlkEq
namespace Go.Proofs.YtfnpbpokieckcaaDoor
open Go Go.RowKit

end Go.Proofs.YtfnpbpokieckcaaDoor
