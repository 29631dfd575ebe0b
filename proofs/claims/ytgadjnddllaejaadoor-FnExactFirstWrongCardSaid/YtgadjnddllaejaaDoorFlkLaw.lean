/-
  The laws' comparisons and marks on flocks.
-/
import Derived.Test.YtgadjnddllaejaaDoorFlkEq
import Derived.RangeFuncNested
import Derived.Shelf.Abstract
namespace Go.Proofs.YtgadjnddllaejaaDoor
open Go Go.RowKit

end Go.Proofs.YtgadjnddllaejaaDoor
