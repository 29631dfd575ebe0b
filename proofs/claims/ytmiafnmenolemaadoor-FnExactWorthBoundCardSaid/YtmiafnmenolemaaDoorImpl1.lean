/-
  The program's small functions on numbers, places and spots.
-/
import Derived.Test.YtmiafnmenolemaaDoorSpec1
import Derived.StillTailTactics
namespace Go.Proofs.YtmiafnmenolemaaDoor
open Go Go.RowKit

theorem isSeeds_any (n : Int) (w : World) : Calls Tryd.prog 61 #[.int .i64 n] w fun e w' => e = .returned (.bool (inB n 0 1000)) ∧ w = w' := by
  by_cases h1 : 0 ≤ n
  · by_cases h2 : n ≤ 1000
    · rw [inB_iff.2 ⟨h1, h2⟩]
      go_enter Tryd.func61, Tryd.ntmps61
      go_wp2_with fail
      go_ret
      exact ⟨rfl, rfl⟩
    · rw [inB_false (.inr (by omega))]
      go_enter Tryd.func61, Tryd.ntmps61
      go_wp2_with fail
      go_ret
      exact ⟨rfl, rfl⟩
  · rw [inB_false (.inl (by omega))]
    go_enter Tryd.func61, Tryd.ntmps61
    go_wp2_with fail
    go_ret
    exact ⟨rfl, rfl⟩
/-- Has the field this place? -/
def placeIn (f : Fd) (x y : Int) : Bool := decide (0 ≤ x) && decide (x < f.W) && decide (0 ≤ y) && decide (y < f.H)
theorem tdiv_small (c : Int) (h1 : -9223372036854775808 ≤ c) (h2 : c ≤ 9223372036854775807) : wrap64 (c.tdiv 10) = c.tdiv 10 := by
  apply IntWalk.wrap64_in
  rcases Int.le_total 0 c with h | h
  · rw [Int.tdiv_eq_ediv_of_nonneg h]; omega
  · have : c.tdiv 10 = -((-c).tdiv 10) := by rw [Int.neg_tdiv]; omega
    rw [this, Int.tdiv_eq_ediv_of_nonneg (by omega)]; omega
theorem placeIn_cell {f : Fd} (hH : f.H ≤ 10) (c : Int) (h1 : -9223372036854775808 ≤ c) (h2 : c ≤ 9223372036854775807) : placeIn f (c.tmod 10) (wrap64 (c.tdiv 10)) = isCell f c := by
  rw [tdiv_small c h1 h2]
  unfold placeIn isCell inB
  rw [Bool.eq_iff_iff]
  simp only [Bool.and_eq_true, decide_eq_true_eq]
  rcases Int.le_total 0 c with h | h
  · rw [Int.tdiv_eq_ediv_of_nonneg h, Int.tmod_eq_emod_of_nonneg h]; omega
  · by_cases h0 : c = 0
    · subst h0; simp
    · have e1 : c.tdiv 10 = -((-c).tdiv 10) := by rw [Int.neg_tdiv]; omega
      have e2 : c.tmod 10 = -((-c).tmod 10) := by rw [Int.neg_tmod]; omega
      rw [e1, e2, Int.tdiv_eq_ediv_of_nonneg (by omega), Int.tmod_eq_emod_of_nonneg (by omega)]; omega
/-- May a cell of a valid field have this kind and these seeds? -/
def spotOk (k s : Int) : Bool := if k = 0 then inB s 0 1000 else inB k 0 3 && s == 0
end Go.Proofs.YtmiafnmenolemaaDoor
