/-
  slices.Clone of flocks.
-/
import Derived.Test.YtaioflkonpommaaDoorSow
import Derived.Test.YtaioflkonpommaaDoorLstF
namespace Go.Proofs.YtaioflkonpommaaDoor
open Go Go.RowKit

theorem Finfo : (Tryd.prog.info? 38).map (fun i => (i.zero, i.size, i.bytes)) = some (some (.agg #[.int .i16 0, .int .i16 0, .int .i16 0, .int .i16 0, .int .i16 0, .int .i8 0]), 6, 12) := by kernel_rfl
end Go.Proofs.YtaioflkonpommaaDoor
