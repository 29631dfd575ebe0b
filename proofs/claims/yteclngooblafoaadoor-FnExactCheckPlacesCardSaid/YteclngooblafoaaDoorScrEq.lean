/-
  Lists of scarecrows compared: the model's way, the program's.
-/
import Derived.Test.YteclngooblafoaaDoorScr
import Derived.Test.YteclngooblafoaaDoorCoreB
import Derived.Test.YteclngooblafoaaDoorFlkEq
namespace Go.Proofs.YteclngooblafoaaDoor
open Go Go.RowKit

end Go.Proofs.YteclngooblafoaaDoor
