/-
  The laws' copies of an argument that is a list of plots.
-/
import Derived.Test.YtddbpbibjiahgaaDoorPltLaw
import Derived.Test.YtddbpbibjiahgaaDoorFlkIn
namespace Go.Proofs.YtddbpbibjiahgaaDoor
open Go Go.RowKit Go.WideShapes Go.ChangeShapes Go.Deep

end Go.Proofs.YtddbpbibjiahgaaDoor
