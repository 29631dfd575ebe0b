/-
  Lists of scarecrows compared: the model's way, the program's.
-/
import Derived.Test.YtidddepdjokjcaaDoorScr
import Derived.Test.YtidddepdjokjcaaDoorCoreB
import Derived.Test.YtidddepdjokjcaaDoorFlkEq
namespace Go.Proofs.YtidddepdjokjcaaDoor
open Go Go.RowKit

end Go.Proofs.YtidddepdjokjcaaDoor
