/-
  The model's test of a power.
-/
import Derived.Test.YtpplakfmdjajiaaDoorFearO
namespace Go.Proofs.YtpplakfmdjajiaaDoor
open Go Go.RowKit

theorem l03Power_any (n : Int) (w : World) : Calls Tryd.prog 60 #[.int .i64 n] w fun e w' => e = .returned (.bool (inB n 1 1000)) ∧ w = w' := by
  go_enter Tryd.func60, Tryd.ntmps60
  go_wp2_with (go_at_call 53; refine (l00In_any _ _ _ _).mono ?_; rintro e w' ⟨rfl, rfl⟩)
  go_ret
  exact ⟨rfl, rfl⟩
end Go.Proofs.YtpplakfmdjajiaaDoor
