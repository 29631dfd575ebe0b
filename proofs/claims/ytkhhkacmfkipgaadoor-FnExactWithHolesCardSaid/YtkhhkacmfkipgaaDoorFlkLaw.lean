/-
  The laws' comparisons and marks on flocks.
-/
import Derived.Test.YtkhhkacmfkipgaaDoorFlkEq
import Derived.RangeFuncNested
import Derived.Shelf.Abstract
namespace Go.Proofs.YtkhhkacmfkipgaaDoor
open Go Go.RowKit

end Go.Proofs.YtkhhkacmfkipgaaDoor
