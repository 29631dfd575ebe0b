/-
  The laws' comparisons and marks on flocks.
-/
import Derived.Test.YtmiafnmenolemaaDoorFlkEq
import Derived.RangeFuncNested
import Derived.Shelf.Abstract
namespace Go.Proofs.YtmiafnmenolemaaDoor
open Go Go.RowKit

end Go.Proofs.YtmiafnmenolemaaDoor
