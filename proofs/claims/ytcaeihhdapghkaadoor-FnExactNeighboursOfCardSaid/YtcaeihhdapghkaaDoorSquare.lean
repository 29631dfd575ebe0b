/-
  The square of two cells: the model's, the program's.
-/
import Derived.Test.YtcaeihhdapghkaaDoorAt
import Derived.Test.YtcaeihhdapghkaaDoorIn
namespace Go.Proofs.YtcaeihhdapghkaaDoor
open Go Go.RowKit

def sq (a b : Int) : Int := (a % 10 - b % 10) * (a % 10 - b % 10) + (a / 10 - b / 10) * (a / 10 - b / 10)
theorem sq_part {x : Int} (h1 : -9 ≤ x) (h2 : x ≤ 9) : 0 ≤ x * x ∧ x * x ≤ 81 := by
  have e : (x * x).natAbs = x.natAbs * x.natAbs := Int.natAbs_mul x x
  have h3 : x.natAbs * x.natAbs ≤ 9 * 9 := Nat.mul_le_mul (by omega) (by omega)
  have h4 : 0 ≤ x * x := by
    rcases Int.le_total 0 x with h | h
    · exact Int.mul_nonneg h h
    · exact Int.mul_nonneg_of_nonpos_of_nonpos h h
  omega
set_option maxHeartbeats 1000000 in
theorem l01Square_any (a b : Nat) (ha : a < 100) (hb : b < 100) (w : World) : Calls Tryd.prog 43 #[.int .i64 a, .int .i64 b] w fun e w' => e = .returned (.int .i64 (sq a b)) ∧ w = w' := by
  obtain ⟨h1, h2⟩ := sq_part (x := (a : Int) % 10 - b % 10) (by omega) (by omega)
  obtain ⟨h3, h4⟩ := sq_part (x := (a : Int) / 10 - b / 10) (by omega) (by omega)
  go_enter Tryd.func43, Tryd.ntmps43
  go_wp2_with fail
  go_ret
  exact ⟨rfl, rfl⟩
theorem placeOf_nat (n : Nat) (hn : n < 100) (w : World) : Calls Tryd.prog 81 #[.int .i64 n] w fun e w' => e = .returned (.tuple #[.int .i64 ((n : Int) % 10), .int .i64 ((n : Int) / 10)]) ∧ w = w' := by
  have h := placeOf_any n w
  rw [tdiv_small n (by omega) (by omega), Int.tdiv_eq_ediv_of_nonneg (by omega), Int.tmod_eq_emod_of_nonneg (by omega)] at h
  exact h
set_option maxHeartbeats 1000000 in
theorem squareBetween_any (a b : Nat) (ha : a < 100) (hb : b < 100) (w : World) : Calls Tryd.prog 50 #[.int .i64 a, .int .i64 b] w fun e w' => e = .returned (.int .i64 (sq a b)) ∧ w = w' := by
  obtain ⟨h1, h2⟩ := sq_part (x := (a : Int) % 10 - b % 10) (by omega) (by omega)
  obtain ⟨h3, h4⟩ := sq_part (x := (a : Int) / 10 - b / 10) (by omega) (by omega)
  have ok1 : True := trivial
  have ok2 : True := trivial
  go_enter Tryd.func50, Tryd.ntmps50
  go_wp2_with (first
    | (clear ok1; go_at_call 81; refine (placeOf_nat a ha _).mono ?_; rintro e w' ⟨rfl, rfl⟩)
    | (clear ok2; go_at_call 81; refine (placeOf_nat b hb _).mono ?_; rintro e w' ⟨rfl, rfl⟩))
  go_ret
  exact ⟨rfl, rfl⟩
def squareCode (f : Fd) (a b : Int) : Int := asked f a (isCell f b)
def squareOf (f : Fd) (a b : Int) : Int := if squareCode f a b = 0 then sq a b else 0
/-- Two numbers, as a list's cells. -/
def two (a b : Int) (i : Nat) : Int := if i = 0 then a else b
theorem two_cells (f : Fd) (a b : Int) : allTo 2 (fun i => isCell f (two a b i)) = (isCell f a && isCell f b) := by
  rw [Bool.eq_iff_iff, allTo_iff, Bool.and_eq_true]
  constructor
  · intro h; exact ⟨h 0 (by omega), h 1 (by omega)⟩
  · rintro ⟨h1, h2⟩ i hi
    have : i = 0 ∨ i = 1 := by omega
    rcases this with rfl | rfl
    · exact h1
    · exact h2
set_option maxRecDepth 100000 in
set_option maxHeartbeats 2000000 in
theorem implSquareOf (f : Fd) (hf : f.Wf) (a b : Int) (ha1 : -9223372036854775808 ≤ a) (ha2 : a ≤ 9223372036854775807) (hb1 : -9223372036854775808 ≤ b) (hb2 : b ≤ 9223372036854775807) (A : Nat → Addr) (w : World) (S0 : Sents w A) : Calls Tryd.prog 40 #[.agg (fcells f), .int .i64 a, .int .i64 b] w fun e w' => e = .returned (.tuple #[.int .i64 (squareOf f a b), .int .i64 (squareCode f a b)]) ∧ Below w.heap.size w w' := by
  have S : Hid (Sents w A) := Lib.hid S0
  clear S0
  have hif := isIfaceErr
  have hg : Hid (∀ i, i < 2 → -9223372036854775808 ≤ two a b i ∧ two a b i ≤ 9223372036854775807) := Lib.hid (fun i _ => by unfold two; split <;> omega)
  unfold squareOf squareCode
  cases hok : okF f with
  | false =>
    have ha : asked f a (isCell f b) = 1 := by simp [asked, hok]
    rw [ha, if_neg (by omega)]; clear ha
    go_enter Tryd.func40, Tryd.ntmps40
    go_upto_region 1 with (fail)
    obtain ⟨W, hW, M⟩ := open1 w (fcells f) 32
    rw [hW]; clear hW
    go_wp2_with (first
      | (refine wpList_load_part rfl 32 _ rfl w.heap.size 0 rfl (fcells f) _ (M.at 0 rfl).whole Tryd.underlying32 rfl (by rw [fcells_size]; exact sizeFd) ?_)
      | (go_at_call 46; refine (checkCells_bad f hf hok A _ _ (S.out.later (M.alloc _ _).below)).mono ?_; rintro e W2 ⟨rfl, hb⟩; have M2 := (M.alloc _ _).call hb)
      | (go_at_call 47; refine (codeOf_err A 1 (by omega) (by omega) _ (S.out.later M2.below)).mono ?_; rintro e W3 ⟨rfl, rfl⟩))
    go_ret2
    exact ⟨rfl, M2.below⟩
  | true =>
    cases hc : (isCell f a && isCell f b) with
    | false =>
      have ha : asked f a (isCell f b) = 2 := by
        unfold asked
        rw [if_neg (by rw [hok]; decide)]
        cases h1 : isCell f a with
        | false => simp
        | true => rw [h1, Bool.true_and] at hc; simp [hc]
      have hal : allTo 2 (fun i => isCell f (two a b i)) = false := by rw [two_cells, hc]
      rw [ha, if_neg (by omega)]; clear ha
      go_enter Tryd.func40, Tryd.ntmps40
      go_upto_region 1 with (fail)
      obtain ⟨W, hW, M⟩ := open1 w (fcells f) 32
      rw [hW]; clear hW
      go_wp2_with (first
        | (refine wpList_load_part rfl 32 _ rfl w.heap.size 0 rfl (fcells f) _ (M.at 0 rfl).whole Tryd.underlying32 rfl (by rw [fcells_size]; exact sizeFd) ?_)
        | (go_at_call 46; refine (checkCells_ok f hf hok 2 (by omega) (two a b) hg.out A _ _ _ (Blk.new _ _ _) (S.out.later (M.alloc _ _).below)).mono ?_; rintro e W2 ⟨rfl, hb⟩; rw [hal, errIf_false]; have M2 := (M.alloc _ _).call hb)
        | (go_at_call 47; refine (codeOf_err A 2 (by omega) (by omega) _ (S.out.later M2.below)).mono ?_; rintro e W3 ⟨rfl, rfl⟩))
      go_ret2
      exact ⟨rfl, M2.below⟩
    | true =>
      have hal : allTo 2 (fun i => isCell f (two a b i)) = true := by rw [two_cells, hc]
      obtain ⟨hca, hcb⟩ := Bool.and_eq_true_iff.1 hc
      have ha : asked f a (isCell f b) = 0 := by simp [asked, hok, hca, hcb]
      rw [ha, if_pos rfl]; clear ha
      obtain ⟨n, hn, rfl⟩ := cell_nat hca
      obtain ⟨m, hm, rfl⟩ := cell_nat hcb
      go_enter Tryd.func40, Tryd.ntmps40
      go_upto_region 1 with (fail)
      obtain ⟨W, hW, M⟩ := open1 w (fcells f) 32
      rw [hW]; clear hW
      go_wp2_with (first
        | (refine wpList_load_part rfl 32 _ rfl w.heap.size 0 rfl (fcells f) _ (M.at 0 rfl).whole Tryd.underlying32 rfl (by rw [fcells_size]; exact sizeFd) ?_)
        | (go_at_call 46; refine (checkCells_ok f hf hok 2 (by omega) (two n m) hg.out A _ _ _ (Blk.new _ _ _) (S.out.later (M.alloc _ _).below)).mono ?_; rintro e W2 ⟨rfl, hb⟩; rw [hal, errIf_true]; have M2 := (M.alloc _ _).call hb)
        | (go_at_call 50; refine (squareBetween_any n m hn hm _).mono ?_; rintro e w' ⟨rfl, rfl⟩))
      go_ret2
      exact ⟨rfl, M2.below⟩
end Go.Proofs.YtcaeihhdapghkaaDoor
