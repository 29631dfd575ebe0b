/-
  The laws' comparisons and marks on flocks.
-/
import Derived.Test.YtidddepdjokjcaaDoorFlkEq
import Derived.RangeFuncNested
import Derived.Shelf.Abstract
namespace Go.Proofs.YtidddepdjokjcaaDoor
open Go Go.RowKit

end Go.Proofs.YtidddepdjokjcaaDoor
