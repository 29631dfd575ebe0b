/-
  The bits of a set: what a set has that a number is put into; the wanted set has the wanted cells.
-/
import Derived.Test.YtfchbdbfokpcdaaDoorWhere
import Derived.Test.YtfchbdbfokpcdaaDoorSets
import Derived.Laws.Bits64b
namespace Go.Proofs.YtfchbdbfokpcdaaDoor
open Go Go.RowKit

/-- Both words are words. -/
def U64 (g : Nat → Int) : Prop := ∀ i, 0 ≤ g i ∧ g i < 18446744073709551616
theorem and_bit (a : Nat) (ha : a < 18446744073709551616) : (bits .and .u64 (a : Int) 1 == 1) = decide (a % 2 = 1) := by
  have h := bits_and_u64_nat a 1 ha (by omega)
  simp only [Int.cast_ofNat_Int] at h
  rw [h, show a &&& 1 = a % 2 from Nat.and_one_is_mod a]
  by_cases h2 : a % 2 = 1 <;> simp [h2] <;> omega
theorem hasC_bit {g : Nat → Int} {k a : Nat} (hk : k < 100) (hg : g (k / 64) = (a : Int)) (ha : a < 18446744073709551616) : hasC g (k : Int) = a.testBit (k % 64) := by
  have e1 : inB (k : Int) 0 99 = true := by simp [inB]; omega
  have e2 : ((k : Int) % 64).toNat = k % 64 := by omega
  have e3 : ((a : Int) / 2 ^ (k % 64)) = ((a / 2 ^ (k % 64) : Nat) : Int) := by simp
  have e4 : (if (k : Int) < 64 then g 0 else g 1) = (a : Int) := by
    by_cases h : k < 64
    · rw [if_pos (by omega), ← hg, show k / 64 = 0 by omega]
    · rw [if_neg (by omega), ← hg, show k / 64 = 1 by omega]
  unfold hasC
  rw [e1, e4, e2, e3, and_bit _ (Nat.lt_of_le_of_lt (Nat.div_le_self _ _) ha), Nat.testBit_eq_decide_div_mod_eq, Bool.true_and]
theorem wrap_two : ∀ k : Fin 64, IntKind.u64.wrap (2 ^ k.val) = ((2 ^ k.val : Nat) : Int) := by decide +kernel
theorem two_lt (k : Nat) (hk : k < 64) : 2 ^ k < 18446744073709551616 := by
  have e : (18446744073709551616 : Nat) = 2 ^ 64 := by decide +kernel
  rw [e]; exact Nat.pow_lt_pow_right (by omega) hk
theorem withBit_nat (a k : Nat) (ha : a < 18446744073709551616) (hk : k < 64) : withBit (a : Int) k = ((a ||| 2 ^ k : Nat) : Int) := by
  unfold withBit
  rw [wrap_two ⟨k, hk⟩]
  exact bits_or_u64_nat a (2 ^ k) ha (two_lt k hk)
theorem or_lt (a k : Nat) (ha : a < 18446744073709551616) (hk : k < 64) : a ||| 2 ^ k < 18446744073709551616 := by
  have e : (18446744073709551616 : Nat) = 2 ^ 64 := by decide +kernel
  rw [e] at ha ⊢
  exact Nat.or_lt_two_pow ha (Nat.pow_lt_pow_right (by omega) hk)
theorem putC_u64 {g : Nat → Int} (hg : U64 g) (k : Nat) : U64 (putC g k) := fun i => by
  unfold putC
  by_cases e : i = k / 64
  · rw [if_pos e]
    obtain ⟨h1, h2⟩ := hg i
    obtain ⟨a, ha⟩ : ∃ a : Nat, g i = (a : Int) := ⟨(g i).toNat, by omega⟩
    have hlt : a < 18446744073709551616 := by omega
    have h64 : k % 64 < 64 := Nat.mod_lt _ (by omega)
    rw [ha, withBit_nat a _ hlt h64]
    have := or_lt a (k % 64) hlt h64
    omega
  · rw [if_neg e]; exact hg i
theorem hasC_put {g : Nat → Int} (hg : U64 g) {k j : Nat} (hj : j < 100) : hasC (putC g k) (j : Int) = (hasC g (j : Int) || decide (j = k)) := by
  obtain ⟨h1, h2⟩ := hg (j / 64)
  obtain ⟨a, ha⟩ : ∃ a : Nat, g (j / 64) = (a : Int) := ⟨(g (j / 64)).toNat, by omega⟩
  have hlt : a < 18446744073709551616 := by omega
  have h64 : k % 64 < 64 := Nat.mod_lt _ (by omega)
  rw [hasC_bit hj ha hlt]
  by_cases e : j / 64 = k / 64
  · have hp : putC g k (j / 64) = ((a ||| 2 ^ (k % 64) : Nat) : Int) := by unfold putC; rw [if_pos e, ha, withBit_nat a _ hlt h64]
    rw [hasC_bit hj hp (or_lt a _ hlt h64), Nat.testBit_or, Nat.testBit_two_pow]
    congr 1
    rw [Bool.eq_iff_iff, decide_eq_true_eq, decide_eq_true_eq]
    omega
  · have hp : putC g k (j / 64) = (a : Int) := by unfold putC; rw [if_neg e, ha]
    rw [hasC_bit hj hp hlt, decide_eq_false (show ¬ j = k by rintro rfl; exact e rfl), Bool.or_false]
theorem hasC_zero (j : Nat) (hj : j < 100) : hasC (fun _ => 0) (j : Int) = false := by
  rw [hasC_bit (g := fun _ => 0) (a := 0) hj rfl (by omega), Nat.zero_testBit]
theorem want_u64 (f : Fd) (q : Nat → Bool) : ∀ n, U64 (wantSet f q n)
  | 0 => fun _ => by simp [wantSet]
  | n + 1 => by
    cases h : (isCell f n && q n) with
    | true =>
      simp only [Bool.and_eq_true] at h
      rw [wantSet_yes h.1 h.2]; exact putC_u64 (want_u64 f q n) n
    | false => rw [wantSet_no h]; exact want_u64 f q n
/-- The wanted set has the wanted cells. -/
theorem hasC_want (f : Fd) (q : Nat → Bool) {j : Nat} (hj : j < 100) : ∀ n, hasC (wantSet f q n) (j : Int) = (decide (j < n) && (isCell f j && q j))
  | 0 => by rw [show wantSet f q 0 = fun _ => 0 from rfl, hasC_zero j hj]; simp
  | n + 1 => by
    have ih := hasC_want f q hj n
    cases h : (isCell f n && q n) with
    | true =>
      have h' := h
      simp only [Bool.and_eq_true] at h'
      rw [wantSet_yes h'.1 h'.2, hasC_put (want_u64 f q n) hj, ih]
      by_cases e : j = n
      · subst e; rw [h]; simp
      · rw [decide_eq_false e, Bool.or_false]
        congr 1
        rw [Bool.eq_iff_iff, decide_eq_true_eq, decide_eq_true_eq]; omega
    | false =>
      rw [wantSet_no h, ih]
      by_cases e : j = n
      · subst e; rw [h]; simp
      · congr 1
        rw [Bool.eq_iff_iff, decide_eq_true_eq, decide_eq_true_eq]; omega
/-- Where no cell below n is wanted, the set is empty. -/
theorem want_none (f : Fd) (q : Nat → Bool) : ∀ n, (∀ j : Nat, j < n → (isCell f j && q j) = false) → wantSet f q n = fun _ => 0
  | 0, _ => rfl
  | n + 1, h => by rw [wantSet_no (h n (by omega))]; exact want_none f q n (fun j hj => h j (by omega))
theorem want_some {f : Fd} {q : Nat → Bool} {j : Nat} (hj : j < 100) (h : (isCell f j && q j) = true) : ¬ (wantSet f q 100 0 = 0 ∧ wantSet f q 100 1 = 0) := fun e => by
  have h1 := hasC_want f q hj 100
  rw [h, decide_eq_true hj] at h1
  have h2 : hasC (wantSet f q 100) (j : Int) = hasC (fun _ => 0) (j : Int) := by unfold hasC; rw [e.1, e.2]
  rw [h2, hasC_zero j hj] at h1
  cases h1
end Go.Proofs.YtfchbdbfokpcdaaDoor
