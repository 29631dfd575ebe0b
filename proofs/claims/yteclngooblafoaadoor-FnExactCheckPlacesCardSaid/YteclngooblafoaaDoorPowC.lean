/-
  The model's test of a power.
-/
import Derived.Test.YteclngooblafoaaDoorFearO
namespace Go.Proofs.YteclngooblafoaaDoor
open Go Go.RowKit

theorem l03Power_any (n : Int) (w : World) : Calls Tryd.prog 33 #[.int .i64 n] w fun e w' => e = .returned (.bool (inB n 1 1000)) ∧ w = w' := by
  go_enter Tryd.func33, Tryd.ntmps33
  go_wp2_with (go_at_call 43; refine (l00In_any _ _ _ _).mono ?_; rintro e w' ⟨rfl, rfl⟩)
  go_ret
  exact ⟨rfl, rfl⟩
end Go.Proofs.YteclngooblafoaaDoor
