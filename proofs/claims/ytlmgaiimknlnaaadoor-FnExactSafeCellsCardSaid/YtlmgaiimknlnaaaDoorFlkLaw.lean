/-
  The laws' comparisons and marks on flocks.
-/
import Derived.Test.YtlmgaiimknlnaaaDoorFlkEq
import Derived.RangeFuncNested
import Derived.Shelf.Abstract
namespace Go.Proofs.YtlmgaiimknlnaaaDoor
open Go Go.RowKit

end Go.Proofs.YtlmgaiimknlnaaaDoor
