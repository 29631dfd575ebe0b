/-
  Lists of scarecrows compared: the model's way, the program's.
-/
import Derived.Test.YtmdfmbkchiafhaaDoorScr
import Derived.Test.YtmdfmbkchiafhaaDoorCoreB
import Derived.Test.YtmdfmbkchiafhaaDoorFlkEq
namespace Go.Proofs.YtmdfmbkchiafhaaDoor
open Go Go.RowKit

end Go.Proofs.YtmdfmbkchiafhaaDoor
