/-
  The square of two cells: the model's, the program's.
-/
import Derived.Test.YtaioflkonpommaaDoorCoreC
import Derived.Test.YtaioflkonpommaaDoorCoreA
namespace Go.Proofs.YtaioflkonpommaaDoor
open Go Go.RowKit

def sq (a b : Int) : Int := (a % 10 - b % 10) * (a % 10 - b % 10) + (a / 10 - b / 10) * (a / 10 - b / 10)
theorem sq_part {x : Int} (h1 : -9 ≤ x) (h2 : x ≤ 9) : 0 ≤ x * x ∧ x * x ≤ 81 := by
  have e : (x * x).natAbs = x.natAbs * x.natAbs := Int.natAbs_mul x x
  have h3 : x.natAbs * x.natAbs ≤ 9 * 9 := Nat.mul_le_mul (by omega) (by omega)
  have h4 : 0 ≤ x * x := by
    rcases Int.le_total 0 x with h | h
    · exact Int.mul_nonneg h h
    · exact Int.mul_nonneg_of_nonpos_of_nonpos h h
  omega
set_option maxHeartbeats 1000000 in
theorem l01Square_any (a b : Nat) (ha : a < 100) (hb : b < 100) (w : World) : Calls Tryd.prog 84 #[.int .i64 a, .int .i64 b] w fun e w' => e = .returned (.int .i64 (sq a b)) ∧ w = w' := by
  obtain ⟨h1, h2⟩ := sq_part (x := (a : Int) % 10 - b % 10) (by omega) (by omega)
  obtain ⟨h3, h4⟩ := sq_part (x := (a : Int) / 10 - b / 10) (by omega) (by omega)
  go_enter Tryd.func84, Tryd.ntmps84
  go_wp2_with fail
  go_ret
  exact ⟨rfl, rfl⟩
theorem placeOf_nat (n : Nat) (hn : n < 100) (w : World) : Calls Tryd.prog 111 #[.int .i64 n] w fun e w' => e = .returned (.tuple #[.int .i64 ((n : Int) % 10), .int .i64 ((n : Int) / 10)]) ∧ w = w' := by
  have h := placeOf_any n w
  rw [tdiv_small n (by omega) (by omega), Int.tdiv_eq_ediv_of_nonneg (by omega), Int.tmod_eq_emod_of_nonneg (by omega)] at h
  exact h
set_option maxHeartbeats 1000000 in
theorem squareBetween_any (a b : Nat) (ha : a < 100) (hb : b < 100) (w : World) : Calls Tryd.prog 105 #[.int .i64 a, .int .i64 b] w fun e w' => e = .returned (.int .i64 (sq a b)) ∧ w = w' := by
  obtain ⟨h1, h2⟩ := sq_part (x := (a : Int) % 10 - b % 10) (by omega) (by omega)
  obtain ⟨h3, h4⟩ := sq_part (x := (a : Int) / 10 - b / 10) (by omega) (by omega)
  have ok1 : True := trivial
  have ok2 : True := trivial
  go_enter Tryd.func105, Tryd.ntmps105
  go_wp2_with (first
    | (clear ok1; go_at_call 111; refine (placeOf_nat a ha _).mono ?_; rintro e w' ⟨rfl, rfl⟩)
    | (clear ok2; go_at_call 111; refine (placeOf_nat b hb _).mono ?_; rintro e w' ⟨rfl, rfl⟩))
  go_ret
  exact ⟨rfl, rfl⟩
def squareCode (f : Fd) (a b : Int) : Int := asked f a (isCell f b)
def squareOf (f : Fd) (a b : Int) : Int := if squareCode f a b = 0 then sq a b else 0
/-- Two numbers, as a list's cells. -/
def two (a b : Int) (i : Nat) : Int := if i = 0 then a else b
theorem two_cells (f : Fd) (a b : Int) : allTo 2 (fun i => isCell f (two a b i)) = (isCell f a && isCell f b) := by
  rw [Bool.eq_iff_iff, allTo_iff, Bool.and_eq_true]
  constructor
  · intro h; exact ⟨h 0 (by omega), h 1 (by omega)⟩
  · rintro ⟨h1, h2⟩ i hi
    have : i = 0 ∨ i = 1 := by omega
    rcases this with rfl | rfl
    · exact h1
    · exact h2
end Go.Proofs.YtaioflkonpommaaDoor
