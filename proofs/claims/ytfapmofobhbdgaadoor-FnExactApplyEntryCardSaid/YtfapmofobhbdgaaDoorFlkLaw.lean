/-
  The laws' comparisons and marks on flocks.
-/
import Derived.Test.YtfapmofobhbdgaaDoorFlkEq
import Derived.RangeFuncNested
import Derived.Shelf.Abstract
namespace Go.Proofs.YtfapmofobhbdgaaDoor
open Go Go.RowKit

end Go.Proofs.YtfapmofobhbdgaaDoor
