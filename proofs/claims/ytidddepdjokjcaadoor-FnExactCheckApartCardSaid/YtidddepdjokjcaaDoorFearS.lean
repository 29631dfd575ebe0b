/-
  The fear of a cell: the model's greatest of a list.
-/
import Derived.Test.YtidddepdjokjcaaDoorFearAt
import Derived.Test.YtidddepdjokjcaaDoorCoreB
namespace Go.Proofs.YtidddepdjokjcaaDoor
open Go Go.RowKit

theorem sqS (x c : Int) (hx : 0 ≤ x ∧ x ≤ 99) (hc : 0 ≤ c ∧ c ≤ 99) (w : World) : Calls Tryd.prog 66 #[.int .i64 x, .int .i64 c] w fun e w' => e = .returned (.int .i64 (sq x c)) ∧ w = w' := by
  obtain ⟨m, rfl⟩ : ∃ m : Nat, x = (m : Int) := ⟨x.toNat, by omega⟩
  obtain ⟨k, rfl⟩ : ∃ k : Nat, c = (k : Int) := ⟨c.toNat, by omega⟩
  exact l01Square_any m k (by omega) (by omega) w
end Go.Proofs.YtidddepdjokjcaaDoor
