/-
  Lists of scarecrows compared: the model's way, the program's.
-/
import Derived.Test.YtpplakfmdjajiaaDoorScr
import Derived.Test.YtpplakfmdjajiaaDoorStrEq
import Derived.Test.YtpplakfmdjajiaaDoorFlkEq
namespace Go.Proofs.YtpplakfmdjajiaaDoor
open Go Go.RowKit

end Go.Proofs.YtpplakfmdjajiaaDoor
