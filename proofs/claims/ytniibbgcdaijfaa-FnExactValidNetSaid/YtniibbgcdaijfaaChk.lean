/-
  The program's checks of fields and cells.
-/
import Derived.Test.YtniibbgcdaijfaaValid
import Derived.Test.YtniibbgcdaijfaaErr
import Derived.Test.YtniibbgcdaijfaaMapKey
import Derived.Test.YtniibbgcdaijfaaIn
import Derived.DeepKeys3
import Derived.Outline
import Derived.OwnWalk
import Derived.Maps.OwnOps
namespace Go.Proofs.Ytniibbgcdaijfaa
open Go Go.RowKit

end Go.Proofs.Ytniibbgcdaijfaa
