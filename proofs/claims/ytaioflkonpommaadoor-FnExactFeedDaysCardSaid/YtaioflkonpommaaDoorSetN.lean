/-
  What is in a set, but not in another one: its bits.
-/
import Derived.Test.YtaioflkonpommaaDoorSetB
import Derived.Test.YtaioflkonpommaaDoorCoreD
namespace Go.Proofs.YtaioflkonpommaaDoor
open Go Go.RowKit

def andn (a b : Nat) : Nat := (BitVec.ofInt 64 (a : Int) &&& ~~~ BitVec.ofInt 64 (b : Int)).toNat
theorem andn_lt (a b : Nat) : andn a b < 18446744073709551616 := by
  have := (BitVec.ofInt 64 (a : Int) &&& ~~~ BitVec.ofInt 64 (b : Int)).isLt
  unfold andn; rw [p64]; exact this
theorem andn_bit (a b k : Nat) (hk : k < 64) : (andn a b).testBit k = (a.testBit k && !b.testBit k) := by
  unfold andn
  rw [BitVec.testBit_toNat, BitVec.getLsbD_and, BitVec.getLsbD_not, BitVec.ofInt_natCast, BitVec.ofInt_natCast, BitVec.getLsbD_ofNat, BitVec.getLsbD_ofNat]
  simp [hk]
theorem bits_andn (a b : Nat) : bits .andNot .u64 (a : Int) (b : Int) = ((andn a b : Nat) : Int) := by
  have hx := andn_lt a b
  show IntKind.u64.wrap ((BitVec.ofInt 64 (a : Int) &&& ~~~ BitVec.ofInt 64 (b : Int)).toNat : Int) = _
  change IntKind.u64.wrap ((andn a b : Nat) : Int) = _
  rw [IntKind.wrap_u64]
  omega
theorem andn_le (a b : Nat) (ha : a < 18446744073709551616) : andn a b ≤ a := by
  apply Nat.le_of_testBit
  intro i hi
  by_cases h : i < 64
  · rw [andn_bit a b i h] at hi
    simp only [Bool.and_eq_true] at hi
    exact hi.1
  · have hl := andn_lt a b
    rw [p64] at hl
    rw [Nat.testBit_lt_two_pow (Nat.lt_of_lt_of_le hl (Nat.pow_le_pow_right (by omega) (by omega)))] at hi
    cases hi
theorem less_nat {f g : Nat → Int} (hf : U64 f) (hg : U64 g) (i : Nat) : ∃ a b : Nat, f i = (a : Int) ∧ g i = (b : Int) ∧ a < 18446744073709551616 ∧ b < 18446744073709551616 ∧ joinC .andNot f g i = ((andn a b : Nat) : Int) := by
  obtain ⟨a, ea, ha⟩ := nat_of hf i
  obtain ⟨b, eb, hb⟩ := nat_of hg i
  exact ⟨a, b, ea, eb, ha, hb, by show bits .andNot .u64 (f i) (g i) = _; rw [ea, eb, bits_andn]⟩
theorem less_u64 {f g : Nat → Int} (hf : U64 f) (hg : U64 g) : U64 (joinC .andNot f g) := fun i => by
  obtain ⟨a, b, _, _, _, _, h⟩ := less_nat hf hg i
  have := andn_lt a b
  rw [h]; omega
theorem less_N100 {f g : Nat → Int} (hf : N100 f) (hg : U64 g) : N100 (joinC .andNot f g) := ⟨less_u64 hf.1 hg, by
  obtain ⟨a, b, ea, _, ha, _, h⟩ := less_nat hf.1 hg 1
  have h1 := andn_le a b ha
  have h2 := hf.2
  rw [h]; rw [ea] at h2; omega⟩
theorem hasC_less {f g : Nat → Int} (hf : U64 f) (hg : U64 g) {j : Nat} (hj : j < 100) : hasC (joinC .andNot f g) (j : Int) = (hasC f (j : Int) && !hasC g (j : Int)) := by
  obtain ⟨a, b, ea, eb, ha, hb, h⟩ := less_nat hf hg (j / 64)
  rw [hasC_bit hj h (andn_lt a b), hasC_bit hj ea ha, hasC_bit hj eb hb, andn_bit _ _ _ (by omega)]
/-- The words with the bits above 99 left away. -/
def cutC (g : Nat → Int) (i : Nat) : Int := if i = 0 then g 0 else bits .and .u64 (g 1) 68719476735
theorem opC_cut (op : BinOp) (f g : Nat → Int) : opC op f g = cutC (joinC op f g) := rfl
theorem cutC_N100 {g : Nat → Int} (hg : U64 g) : N100 (cutC g) := by
  obtain ⟨b, eb, hb⟩ := nat_of hg 1
  have e : ∀ i, i ≠ 0 → cutC g i = ((b % 68719476736 : Nat) : Int) := fun i hi => by
    unfold cutC; rw [if_neg hi, eb, mask_lt b hb]
  refine ⟨fun i => ?_, by rw [e 1 (by omega)]; omega⟩
  by_cases hi : i = 0
  · subst hi; exact hg 0
  · rw [e i hi]; omega
theorem hasC_cut {g : Nat → Int} (hg : U64 g) {j : Nat} (hj : j < 100) : hasC (cutC g) (j : Int) = hasC g (j : Int) := by
  by_cases h : j < 64
  · obtain ⟨a, ea, ha⟩ := nat_of hg 0
    rw [hasC_bit (a := a) hj (by rw [Nat.div_eq_of_lt h]; exact ea) ha, hasC_bit (a := a) hj (by rw [Nat.div_eq_of_lt h]; exact ea) ha]
  · obtain ⟨b, eb, hb⟩ := nat_of hg 1
    have e1 : j / 64 = 1 := by omega
    have e2 : cutC g 1 = ((b % 68719476736 : Nat) : Int) := by unfold cutC; rw [if_neg (by omega), eb, mask_lt b hb]
    rw [hasC_bit (a := b % 68719476736) hj (by rw [e1]; exact e2) (by omega), hasC_bit (a := b) hj (by rw [e1]; exact eb) hb, p36, Nat.testBit_mod_two_pow]
    simp; omega
theorem hlist_congr {f g : Nat → Int} : ∀ n, n ≤ 100 → (∀ j : Nat, j < 100 → hasC f (j : Int) = hasC g (j : Int)) → hlist f n = hlist g n
  | 0, _, _ => rfl
  | n + 1, hn, h => by
    have ih := hlist_congr n (by omega) h
    have hj := h n (by omega)
    cases hc : hasC g (n : Int) with
    | true => rw [hlist_hit hc, hlist_hit (by rw [hj]; exact hc), ih]
    | false => rw [hlist_miss hc, hlist_miss (by rw [hj]; exact hc), ih]
theorem hlist_nil {g : Nat → Int} : ∀ {n}, hlist g n = [] → ∀ j : Nat, j < n → hasC g (j : Int) = false
  | 0, _, j, hj => by omega
  | n + 1, h, j, hj => by
    cases hc : hasC g (n : Int) with
    | true => rw [hlist_hit hc] at h; simp at h
    | false =>
      rw [hlist_miss hc] at h
      by_cases e : j = n
      · subst e; exact hc
      · exact hlist_nil h j (by omega)
theorem hlist_empty {g : Nat → Int} : ∀ {n}, (∀ j : Nat, j < n → hasC g (j : Int) = false) → hlist g n = []
  | 0, _ => rfl
  | n + 1, h => by rw [hlist_miss (h n (by omega)), hlist_empty (fun j hj => h j (by omega))]
/-- A set with no number: its words, its list. -/
theorem none_iff {g : Nat → Int} (hg : N100 g) : (g 0 = 0 ∧ g 1 = 0) ↔ hlist g 100 = [] := by
  constructor
  · intro h
    exact hlist_empty (fun j hj => by
      have h2 : hasC g (j : Int) = hasC (fun _ => 0) (j : Int) := by unfold hasC; rw [h.1, h.2]
      rw [h2, hasC_zero j hj])
  · exact fun h => word_zero hg (hlist_nil h)
/-- Two words of a set that comes in. -/
theorem u64_of (g : Nat → Int) (h : ∀ i, i < 2 → (Lit.int .u64 (g i)).wf = true) : ∃ g', U64 g' ∧ acells .u64 2 g = acells .u64 2 g' := by
  refine ⟨fun i => if i < 2 then g i else 0, fun i => ?_, acells_congr (fun i hi => by rw [if_pos hi])⟩
  show 0 ≤ (if i < 2 then g i else 0) ∧ (if i < 2 then g i else 0) < 18446744073709551616
  by_cases hi : i < 2
  · rw [if_pos hi]
    have e1 : IntKind.u64.min = 0 := by decide
    have e2 : IntKind.u64.max = 18446744073709551615 := by decide
    have := h i hi
    simp [Lit.wf, e1, e2] at this
    omega
  · rw [if_neg hi]; omega
theorem wf_of_u64 {g : Nat → Int} (h : U64 g) : ∀ i, i < 2 → (Lit.int .u64 (g i)).wf = true := fun i _ => lit_word (h i)
end Go.Proofs.YtaioflkonpommaaDoor
