/-
  The laws' comparisons and marks on flocks.
-/
import Derived.Test.YtniibbgcdaijfaaDoorFlkEq
import Derived.RangeFuncNested
import Derived.Shelf.Abstract
namespace Go.Proofs.YtniibbgcdaijfaaDoor
open Go Go.RowKit

end Go.Proofs.YtniibbgcdaijfaaDoor
