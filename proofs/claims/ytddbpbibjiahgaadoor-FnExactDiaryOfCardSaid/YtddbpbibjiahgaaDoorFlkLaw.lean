/-
  The laws' comparisons and marks on flocks.
-/
import Derived.Test.YtddbpbibjiahgaaDoorFlkEq
import Derived.RangeFuncNested
import Derived.Shelf.Abstract
namespace Go.Proofs.YtddbpbibjiahgaaDoor
open Go Go.RowKit

end Go.Proofs.YtddbpbibjiahgaaDoor
