/-
  Whether numbers of ripening are as told: the program's.
-/
import Derived.Test.YtddbpbibjiahgaaDoorSto0
import Derived.Test.YtddbpbibjiahgaaDoorCoreA
namespace Go.Proofs.YtddbpbibjiahgaaDoor
open Go Go.RowKit

theorem isRipening_any (a b c : Int) (w : World) : Calls Tryd.prog 33 #[.int .i64 a, .int .i64 b, .int .i64 c] w fun e w' => e = .returned (.bool (inB a 0 20 && inB b 0 20 && inB c 0 1000)) ∧ w = w' := by
  obtain ⟨q1, h1⟩ : ∃ x, inB a 0 20 = x := ⟨_, rfl⟩
  obtain ⟨q2, h2⟩ : ∃ x, inB b 0 20 = x := ⟨_, rfl⟩
  obtain ⟨q3, h3⟩ : ∃ x, inB c 0 1000 = x := ⟨_, rfl⟩
  rw [h1, h2, h3]
  have H1 := Lib.hid h1
  have H2 := Lib.hid h2
  have H3 := Lib.hid h3
  clear h1 h2 h3
  cases q1 <;> cases q2
  all_goals
    go_enter Tryd.func33, Tryd.ntmps33
    go_wp2_with (first
      | (go_at_call 51; refine (isWait7 _ _).mono ?_; rintro e w' ⟨rfl, rfl⟩; first | rw [H1.out] | rw [H2.out])
      | (go_at_call 52; refine (isSeeds_any _ _).mono ?_; rintro e w' ⟨rfl, rfl⟩; rw [H3.out]))
    go_ret
    exact ⟨rfl, rfl⟩
end Go.Proofs.YtddbpbibjiahgaaDoor
