/-
  The laws' comparisons and marks on flocks.
-/
import Derived.Test.YtniibbgcdaijfaaFlkEq
import Derived.RangeFuncNested
import Derived.Shelf.Abstract
namespace Go.Proofs.Ytniibbgcdaijfaa
open Go Go.RowKit

end Go.Proofs.Ytniibbgcdaijfaa
