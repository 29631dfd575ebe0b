/-
  The laws' comparisons and marks on flocks.
-/
import Derived.Test.YtkhhkacmfkipgaaFlkEq
import Derived.RangeFuncNested
import Derived.Shelf.Abstract
namespace Go.Proofs.Ytkhhkacmfkipgaa
open Go Go.RowKit

end Go.Proofs.Ytkhhkacmfkipgaa
