/-
  The laws' comparisons and marks on flocks.
-/
import Derived.Test.YtfnpbpokieckcaaFlkEq
import Derived.RangeFuncNested
import Derived.Shelf.Abstract
namespace Go.Proofs.Ytfnpbpokieckcaa
open Go Go.RowKit

end Go.Proofs.Ytfnpbpokieckcaa
