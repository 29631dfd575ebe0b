/-
  Sets by their bits: what two sets have, together, in common, the one alone; sets of numbers from 0 to 99.
-/
import Derived.Test.YtaioflkonpommaaDoorCoreD
import Derived.Test.YtaioflkonpommaaDoorSets2
import Derived.Test.YtaioflkonpommaaDoorCoreA
namespace Go.Proofs.YtaioflkonpommaaDoor
open Go Go.RowKit

/-- A set that has no bit of a number greater than 99. -/
def N100 (g : Nat → Int) : Prop := U64 g ∧ g 1 < 68719476736
/-- Two sets, word by word. -/
def joinC (op : BinOp) (f g : Nat → Int) (i : Nat) : Int := bits op .u64 (f i) (g i)
theorem and_of (a b : Nat) (ha : a < 18446744073709551616) (hb : b < 18446744073709551616) : bits .and .u64 (a : Int) (b : Int) = ((a &&& b : Nat) : Int) := bits_and_u64_nat a b ha hb
theorem nat_of {g : Nat → Int} (hg : U64 g) (i : Nat) : ∃ a : Nat, g i = (a : Int) ∧ a < 18446744073709551616 := ⟨(g i).toNat, by have := hg i; omega, by have := hg i; omega⟩
theorem mask_small (z : Nat) (h : z < 68719476736) : bits .and .u64 (z : Int) 68719476735 = (z : Int) := by
  have h2 := and_of z 68719476735 (by omega) (by omega)
  have e : z &&& 68719476735 = z := by
    have h3 := Nat.and_two_pow_sub_one_eq_mod z 36
    have e1 : (2 ^ 36 - 1 : Nat) = 68719476735 := by decide +kernel
    have e2 : (2 ^ 36 : Nat) = 68719476736 := by decide +kernel
    rw [e1, e2] at h3
    rw [h3, Nat.mod_eq_of_lt h]
  rw [e] at h2
  exact h2
theorem mask_lt (z : Nat) (h : z < 18446744073709551616) : bits .and .u64 (z : Int) 68719476735 = ((z % 68719476736 : Nat) : Int) := by
  have h2 := and_of z 68719476735 h (by omega)
  have h3 := Nat.and_two_pow_sub_one_eq_mod z 36
  have e1 : (2 ^ 36 - 1 : Nat) = 68719476735 := by decide +kernel
  have e2 : (2 ^ 36 : Nat) = 68719476736 := by decide +kernel
  rw [e1, e2] at h3
  rw [h3] at h2
  exact h2
theorem or_bound {n : Nat} {a b : Nat} (ha : a < 2 ^ n) (hb : b < 2 ^ n) : a ||| b < 2 ^ n := Nat.or_lt_two_pow ha hb
theorem p36 : (68719476736 : Nat) = 2 ^ 36 := by decide +kernel
theorem p64 : (18446744073709551616 : Nat) = 2 ^ 64 := by decide +kernel
theorem or_nat {f g : Nat → Int} (hf : U64 f) (hg : U64 g) (i : Nat) : ∃ a b : Nat, f i = (a : Int) ∧ g i = (b : Int) ∧ a < 18446744073709551616 ∧ b < 18446744073709551616 ∧ joinC .or f g i = ((a ||| b : Nat) : Int) ∧ joinC .and f g i = ((a &&& b : Nat) : Int) := by
  obtain ⟨a, ea, ha⟩ := nat_of hf i
  obtain ⟨b, eb, hb⟩ := nat_of hg i
  exact ⟨a, b, ea, eb, ha, hb, by unfold joinC; rw [ea, eb]; exact bits_or_u64_nat a b ha hb, by unfold joinC; rw [ea, eb]; exact and_of a b ha hb⟩
theorem or_u64 {f g : Nat → Int} (hf : U64 f) (hg : U64 g) : U64 (joinC .or f g) := fun i => by
  obtain ⟨a, b, _, _, ha, hb, h, _⟩ := or_nat hf hg i
  rw [p64] at ha hb
  have := or_bound ha hb
  rw [← p64] at this
  rw [h]; omega
theorem or_N100 {f g : Nat → Int} (hf : N100 f) (hg : N100 g) : N100 (joinC .or f g) := ⟨or_u64 hf.1 hg.1, by
  obtain ⟨a, b, ea, eb, _, _, h, _⟩ := or_nat hf.1 hg.1 1
  have h1 := hf.2
  have h2 := hg.2
  rw [ea] at h1
  rw [eb] at h2
  have h1' : a < 2 ^ 36 := by rw [← p36]; omega
  have h2' : b < 2 ^ 36 := by rw [← p36]; omega
  have := or_bound h1' h2'
  rw [← p36] at this
  rw [h]; omega⟩
theorem and_u64 {f g : Nat → Int} (hf : U64 f) (hg : U64 g) : U64 (joinC .and f g) := fun i => by
  obtain ⟨a, b, _, _, ha, _, _, h⟩ := or_nat hf hg i
  have : a &&& b ≤ a := Nat.and_le_left
  rw [h]; omega
theorem and_N100 {f g : Nat → Int} (hf : N100 f) (hg : U64 g) : N100 (joinC .and f g) := ⟨and_u64 hf.1 hg, by
  obtain ⟨a, b, ea, _, _, _, _, h⟩ := or_nat hf.1 hg 1
  have h1 := hf.2
  rw [ea] at h1
  have : a &&& b ≤ a := Nat.and_le_left
  rw [h]; omega⟩
/-- What is masked is as it was, where there is nothing to mask. -/
theorem opC_join {op : BinOp} {f g : Nat → Int} (h : N100 (joinC op f g)) : acells .u64 2 (opC op f g) = acells .u64 2 (joinC op f g) := acells_congr (fun i hi => by
  unfold opC
  by_cases e : i = 0
  · rw [if_pos e, e]; rfl
  · rw [if_neg e, show i = 1 by omega]
    obtain ⟨z, ez, _⟩ := nat_of h.1 1
    have h2 := h.2
    show bits .and .u64 (joinC op f g 1) 68719476735 = joinC op f g 1
    rw [ez] at h2 ⊢
    exact mask_small z (by omega))
theorem word_zero {g : Nat → Int} (hg : N100 g) (h : ∀ j : Nat, j < 100 → hasC g (j : Int) = false) : g 0 = 0 ∧ g 1 = 0 := by
  obtain ⟨a, ea, ha⟩ := nat_of hg.1 0
  obtain ⟨b, eb, hb⟩ := nat_of hg.1 1
  have hb2 := hg.2
  rw [eb] at hb2
  constructor
  · rw [ea]
    have : a = 0 := Nat.eq_of_testBit_eq (fun i => by
      rw [Nat.zero_testBit]
      by_cases hi : i < 64
      · have h1 := h i (by omega)
        rw [hasC_bit (a := a) (by omega) (by rw [Nat.div_eq_of_lt hi]; exact ea) ha, Nat.mod_eq_of_lt hi] at h1
        exact h1
      · rw [p64] at ha
        exact Nat.testBit_lt_two_pow (Nat.lt_of_lt_of_le ha (Nat.pow_le_pow_right (by omega) (by omega))))
    omega
  · rw [eb]
    have : b = 0 := Nat.eq_of_testBit_eq (fun i => by
      rw [Nat.zero_testBit]
      by_cases hi : i < 36
      · have h1 := h (64 + i) (by omega)
        rw [hasC_bit (a := b) (by omega) (by rw [show (64 + i) / 64 = 1 by omega]; exact eb) hb, show (64 + i) % 64 = i by omega] at h1
        exact h1
      · have hb3 : b < 2 ^ 36 := by rw [← p36]; omega
        exact Nat.testBit_lt_two_pow (Nat.lt_of_lt_of_le hb3 (Nat.pow_le_pow_right (by omega) (by omega))))
    omega
theorem hasC_and {f g : Nat → Int} (hf : U64 f) (hg : U64 g) {j : Nat} (hj : j < 100) : hasC (joinC .and f g) (j : Int) = (hasC f (j : Int) && hasC g (j : Int)) := by
  obtain ⟨a, b, ea, eb, ha, hb, _, h⟩ := or_nat hf hg (j / 64)
  have : a &&& b ≤ a := Nat.and_le_left
  rw [hasC_bit hj h (by omega), hasC_bit hj ea ha, hasC_bit hj eb hb, Nat.testBit_and]
/-- Nothing in common: both words are zero. -/
theorem meet_zero {f g : Nat → Int} (hf : N100 f) (hg : U64 g) : (joinC .and f g 0 = 0 ∧ joinC .and f g 1 = 0) ↔ ∀ j : Nat, j < 100 → (hasC f (j : Int) && hasC g (j : Int)) = false := by
  constructor
  · intro h j hj
    rw [← hasC_and hf.1 hg hj]
    have h2 : hasC (joinC .and f g) (j : Int) = hasC (fun _ => 0) (j : Int) := by unfold hasC; rw [h.1, h.2]
    rw [h2, hasC_zero j hj]
  · intro h
    exact word_zero (and_N100 hf hg) (fun j hj => by rw [hasC_and hf.1 hg hj]; exact h j hj)
theorem zero_N100 : N100 (fun _ => 0) := ⟨fun _ => by simp, by simp⟩
theorem putC_N100 {g : Nat → Int} (hg : N100 g) {k : Nat} (hk : k < 100) : N100 (putC g k) := ⟨putC_u64 hg.1 k, by
  unfold putC
  by_cases e : 1 = k / 64
  · rw [if_pos e]
    obtain ⟨b, eb, hb⟩ := nat_of hg.1 1
    have h2 := hg.2
    have h64 : k % 64 < 64 := Nat.mod_lt _ (by omega)
    rw [eb] at h2 ⊢
    rw [withBit_nat b _ hb h64]
    have h36 : k % 64 < 36 := by omega
    have h3 : b < 2 ^ 36 := by rw [← p36]; omega
    have := or_bound h3 (Nat.pow_lt_pow_right (by omega) h36 : 2 ^ (k % 64) < 2 ^ 36)
    rw [← p36] at this
    omega
  · rw [if_neg e]; exact hg.2⟩
theorem lit_word {n : Int} (h : 0 ≤ n ∧ n < 18446744073709551616) : (Lit.int .u64 n).wf = true := by
  have e1 : IntKind.u64.min = 0 := by decide
  have e2 : IntKind.u64.max = 18446744073709551615 := by decide
  simp [Lit.wf, e1, e2]
  omega
end Go.Proofs.YtaioflkonpommaaDoor
