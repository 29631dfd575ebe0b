/-
  Small functions of numbers: the greater, the less; days of waiting.
-/
import Derived.Test.YtddbpbibjiahgaaDoorCoreA
import Derived.Lib.Hide
import Derived.Outline
import Derived.Deep.QuietTactic
namespace Go.Proofs.YtddbpbibjiahgaaDoor
open Go Go.RowKit

theorem wrap64_id {x : Int} (h1 : -9223372036854775808 ≤ x) (h2 : x ≤ 9223372036854775807) : wrap64 x = x := by unfold wrap64; omega
theorem isWait7 (n : Int) (w : World) : Calls Tryd.prog 51 #[.int .i64 n] w fun e w' => e = .returned (.bool (inB n 0 20)) ∧ w = w' := by
  by_cases h1 : 0 ≤ n
  · have e : inB n 0 20 = decide (n ≤ 20) := by simp [inB, h1]
    rw [e]
    go_enter Tryd.func51, Tryd.ntmps51
    go_wp2_with fail
    go_ret
    exact ⟨rfl, rfl⟩
  · rw [inB_false (.inl (by omega))]
    go_enter Tryd.func51, Tryd.ntmps51
    go_wp2_with fail
    go_ret
    exact ⟨rfl, rfl⟩
end Go.Proofs.YtddbpbibjiahgaaDoor
