/-
  The laws' comparisons and marks on flocks.
-/
import Derived.Test.YtpplakfmdjajiaaDoorFlkEq
import Derived.RangeFuncNested
import Derived.Shelf.Abstract
namespace Go.Proofs.YtpplakfmdjajiaaDoor
open Go Go.RowKit

end Go.Proofs.YtpplakfmdjajiaaDoor
