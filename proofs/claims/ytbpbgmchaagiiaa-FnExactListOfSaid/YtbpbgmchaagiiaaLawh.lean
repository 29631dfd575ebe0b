/-
  The laws' own helpers: copies of rows and of a field, and comparisons of two.
-/
import Derived.Test.YtbpbgmchaagiiaaFld
import Derived.Deep.DeepCutAuto
namespace Go.Proofs.Ytbpbgmchaagiiaa
open Go Go.RowKit

end Go.Proofs.Ytbpbgmchaagiiaa
