/-
  math/bits.OnesCount64, as its source has it by masks: the number of set bits.
  The list of a set, ascending, as the model makes it: a slice of its own.
  Sets of cells: what is in one, in both, in the one alone.
  How many numbers a set has: by the list, and by the words' bits.
  The bits of a set: what a set has that a number is put into; the wanted set has the wanted cells.
  Sets by their bits: what two sets have, together, in common, the one alone; sets of numbers from 0 to 99.
  What is in a set, but not in another one: its bits.
  GuessLoss: the model's, and what it counts.
-/
import Derived.WalkKit
import Derived.Laws.Bits64b
import Derived.Deep.Cut
import Derived.Sort.CutIn
import Derived.Lib.Hide
import Derived.Laws.BitsLemmas
import Derived.Test.YtpiejcibjphffaaDoorBase
import Derived.Test.YtpiejcibjphffaaDoorSets
import Derived.Below
import Derived.OwnWalk
import Derived.Deep.QuietTactic
import Derived.Test.YtpiejcibjphffaaDoorWhere
import Derived.Test.YtpiejcibjphffaaDoorEq
import Derived.Test.YtpiejcibjphffaaDoorBoundI
import Derived.Test.YtpiejcibjphffaaDoorKSet
namespace Go.Proofs.YtpiejcibjphffaaDoor
section
open Go Go.RowKit

/-- The byte m, n times. -/
def mm (m : Nat) : Nat → Nat
  | 0 => 0
  | n + 1 => 256 * mm m n + m
theorem and_step (h b M m : Nat) (hb : b < 256) (hm : m < 256) : (256 * h + b) &&& (256 * M + m) = 256 * (h &&& M) + (b &&& m) := by
  have e1 := Nat.and_div_two_pow (a := 256 * h + b) (b := 256 * M + m) (n := 8)
  have e2 := Nat.and_mod_two_pow (a := 256 * h + b) (b := 256 * M + m) (n := 8)
  rw [show (256 * h + b) / 2 ^ 8 = h by omega, show (256 * M + m) / 2 ^ 8 = M by omega] at e1
  rw [show (256 * h + b) % 2 ^ 8 = b by omega, show (256 * M + m) % 2 ^ 8 = m by omega] at e2
  generalize (256 * h + b) &&& (256 * M + m) = z at *
  generalize h &&& M = u at *
  generalize b &&& m = v at *
  omega
def sA (n x : Nat) : Nat := (x / 2 &&& mm 85 n) + (x &&& mm 85 n)
def sB (n x : Nat) : Nat := (x / 4 &&& mm 51 n) + (x &&& mm 51 n)
def sC (n x : Nat) : Nat := (x / 16 + x) &&& mm 15 n
def a8 (b : Nat) : Nat := (b / 2 &&& 85) + (b &&& 85)
def b8 (b : Nat) : Nat := (b / 4 &&& 51) + (b &&& 51)
/-- How many of the n lowest bits are set. -/
def ones : Nat → Nat → Nat
  | 0, _ => 0
  | n + 1, x => x % 2 + ones n (x / 2)
theorem m85 : ∀ e : Fin 2, ∀ c : Fin 128, (128 * e.val + c.val) &&& 85 = c.val &&& 85 := by decide +kernel
theorem m51 : ∀ e : Fin 4, ∀ c : Fin 64, (64 * e.val + c.val) &&& 51 = c.val &&& 51 := by decide +kernel
theorem a8_lt : ∀ b : Fin 256, a8 b.val < 256 := by decide +kernel
theorem b8_le : ∀ b : Fin 256, b8 (a8 b.val) ≤ 68 ∧ b8 (a8 b.val) % 16 ≤ 4 := by decide +kernel
theorem m15 : ∀ e : Fin 5, ∀ b : Fin 256, (16 * e.val + b8 (a8 b.val) / 16 + b8 (a8 b.val)) &&& 15 = ones 8 b.val := by decide +kernel
theorem ones8_le : ∀ b : Fin 256, ones 8 b.val ≤ 8 := by decide +kernel
theorem sA_step (n h b : Nat) (hb : b < 256) : sA (n + 1) (256 * h + b) = 256 * sA n h + a8 b := by
  have e := m85 ⟨h % 2, by omega⟩ ⟨b / 2, by omega⟩
  simp only at e
  unfold sA a8
  rw [show mm 85 (n + 1) = 256 * mm 85 n + 85 from rfl, show (256 * h + b) / 2 = 256 * (h / 2) + (128 * (h % 2) + b / 2) by omega, and_step _ _ _ _ (by omega) (by omega), and_step _ _ _ _ hb (by omega), e]
  omega
theorem sB_step (n h b : Nat) (hb : b < 256) : sB (n + 1) (256 * h + b) = 256 * sB n h + b8 b := by
  have e := m51 ⟨h % 4, by omega⟩ ⟨b / 4, by omega⟩
  simp only at e
  unfold sB b8
  rw [show mm 51 (n + 1) = 256 * mm 51 n + 51 from rfl, show (256 * h + b) / 4 = 256 * (h / 4) + (64 * (h % 4) + b / 4) by omega, and_step _ _ _ _ (by omega) (by omega), and_step _ _ _ _ hb (by omega), e]
  omega
theorem swar (n : Nat) : ∀ x, x < 256 ^ n → sA n x < 256 ^ n ∧ sB n (sA n x) < 256 ^ n ∧ sB n (sA n x) % 16 ≤ 4 ∧ sB n (sA n x) / 16 + sB n (sA n x) < 256 ^ n := by
  induction n with
  | zero => intro x hx; simp [sA, sB, mm]
  | succ n ih =>
    intro x hx
    have hx' : x / 256 < 256 ^ n := by rw [Nat.pow_succ] at hx; omega
    obtain ⟨i1, i2, i3, i4⟩ := ih (x / 256) hx'
    have ex : x = 256 * (x / 256) + x % 256 := by omega
    have e1 : sA (n + 1) x = 256 * sA n (x / 256) + a8 (x % 256) := by
      conv => lhs; rw [ex]
      exact sA_step n _ _ (by omega)
    have l1 := a8_lt ⟨x % 256, by omega⟩
    simp only at l1
    have e2 : sB (n + 1) (sA (n + 1) x) = 256 * sB n (sA n (x / 256)) + b8 (a8 (x % 256)) := by rw [e1]; exact sB_step n _ _ l1
    have l2 := b8_le ⟨x % 256, by omega⟩
    simp only at l2
    rw [e2, e1, Nat.pow_succ]
    generalize sB n (sA n (x / 256)) = Y at *
    generalize b8 (a8 (x % 256)) = y at *
    generalize 256 ^ n = P at *
    omega
theorem sC_step (n x : Nat) (hx : x < 256 ^ (n + 1)) : sC (n + 1) (sB (n + 1) (sA (n + 1) x)) = 256 * sC n (sB n (sA n (x / 256))) + ones 8 (x % 256) := by
  have hx' : x / 256 < 256 ^ n := by rw [Nat.pow_succ] at hx; omega
  obtain ⟨i1, i2, i3, i4⟩ := swar n (x / 256) hx'
  have ex : x = 256 * (x / 256) + x % 256 := by omega
  have e1 : sA (n + 1) x = 256 * sA n (x / 256) + a8 (x % 256) := by
    conv => lhs; rw [ex]
    exact sA_step n _ _ (by omega)
  have l1 := a8_lt ⟨x % 256, by omega⟩
  simp only at l1
  have e2 : sB (n + 1) (sA (n + 1) x) = 256 * sB n (sA n (x / 256)) + b8 (a8 (x % 256)) := by rw [e1]; exact sB_step n _ _ l1
  have l2 := b8_le ⟨x % 256, by omega⟩
  simp only at l2
  rw [e2]
  have e3 := m15 ⟨sB n (sA n (x / 256)) % 16, by omega⟩ ⟨x % 256, by omega⟩
  simp only at e3
  unfold sC
  generalize sB n (sA n (x / 256)) = Y at *
  rw [show (256 * Y + b8 (a8 (x % 256))) / 16 + (256 * Y + b8 (a8 (x % 256))) = 256 * (Y / 16 + Y) + (16 * (Y % 16) + b8 (a8 (x % 256)) / 16 + b8 (a8 (x % 256))) by omega]
  rw [show mm 15 (n + 1) = 256 * mm 15 n + 15 from rfl, and_step _ _ _ _ (by omega) (by omega), e3]
theorem ones_add : ∀ (k n x : Nat), ones (k + n) x = ones k x + ones n (x / 2 ^ k)
  | 0, n, x => by simp [ones]
  | k + 1, n, x => by
    rw [show k + 1 + n = (k + n) + 1 by omega]
    simp only [ones]
    rw [ones_add k n (x / 2), Nat.div_div_eq_div_mul, Nat.pow_succ, Nat.mul_comm 2 (2 ^ k)]
    omega
theorem ones_mod : ∀ (k x : Nat), ones k (x % 2 ^ k) = ones k x
  | 0, x => rfl
  | k + 1, x => by
    simp only [ones]
    have h1 : x % 2 ^ (k + 1) % 2 = x % 2 := by rw [Nat.pow_succ, Nat.mul_comm]; exact Nat.mod_mul_right_mod x 2 _
    have h2 : x % 2 ^ (k + 1) / 2 = x / 2 % 2 ^ k := by rw [Nat.pow_succ, Nat.mul_comm]; exact Nat.mod_mul_right_div_self x 2 _
    rw [h1, h2, ones_mod k]
theorem add_step (a b X Y : Nat) : (a + 256 * X) + (b + 256 * Y) = (a + b) + 256 * (X + Y) := by omega
theorem add_last (a X b : Nat) : (a + 256 * X) + b = (a + b) + 256 * X := by omega
theorem byte_off (p e : Nat) (hp : p < 256) : (p + 256 * e) / 256 = e := by omega
/-- What the last three steps make of the bytes' counts. -/
theorem fold_a (p0 p1 p2 p3 p4 p5 p6 p7 c : Nat) (h0 : p0 < 256) (hc : c = p0 + 256 * (p1 + 256 * (p2 + 256 * (p3 + 256 * (p4 + 256 * (p5 + 256 * (p6 + 256 * p7))))))) :
    c + c / 256 = (p0 + p1) + 256 * ((p1 + p2) + 256 * ((p2 + p3) + 256 * ((p3 + p4) + 256 * ((p4 + p5) + 256 * ((p5 + p6) + 256 * ((p6 + p7) + 256 * p7)))))) := by
  have e : c / 256 = p1 + 256 * (p2 + 256 * (p3 + 256 * (p4 + 256 * (p5 + 256 * (p6 + 256 * p7))))) := by rw [hc]; exact byte_off _ _ h0
  rw [e, hc, add_step, add_step, add_step, add_step, add_step, add_step, add_last]
theorem fold_b (p0 p1 p2 p3 p4 p5 p6 p7 c : Nat) (h0 : p0 < 256) (h1 : p1 < 256) (hc : c = p0 + 256 * (p1 + 256 * (p2 + 256 * (p3 + 256 * (p4 + 256 * (p5 + 256 * (p6 + 256 * p7))))))) :
    c + c / 65536 = (p0 + p2) + 256 * ((p1 + p3) + 256 * ((p2 + p4) + 256 * ((p3 + p5) + 256 * ((p4 + p6) + 256 * ((p5 + p7) + 256 * (p6 + 256 * p7)))))) := by
  have e : c / 65536 = p2 + 256 * (p3 + 256 * (p4 + 256 * (p5 + 256 * (p6 + 256 * p7)))) := by
    rw [hc, show (65536 : Nat) = 256 * 256 from rfl, ← Nat.div_div_eq_div_mul, byte_off _ _ h0, byte_off _ _ h1]
  rw [e, hc, add_step, add_step, add_step, add_step, add_step, add_last]
theorem fold_c (p0 p1 p2 p3 p4 p5 p6 p7 c : Nat) (h0 : p0 < 256) (h1 : p1 < 256) (h2 : p2 < 256) (h3 : p3 < 256) (hc : c = p0 + 256 * (p1 + 256 * (p2 + 256 * (p3 + 256 * (p4 + 256 * (p5 + 256 * (p6 + 256 * p7))))))) :
    c + c / 4294967296 = (p0 + p4) + 256 * ((p1 + p5) + 256 * ((p2 + p6) + 256 * ((p3 + p7) + 256 * (p4 + 256 * (p5 + 256 * (p6 + 256 * p7)))))) := by
  have e : c / 4294967296 = p4 + 256 * (p5 + 256 * (p6 + 256 * p7)) := by
    rw [hc, show (4294967296 : Nat) = 256 * 256 * 256 * 256 from rfl, ← Nat.div_div_eq_div_mul, ← Nat.div_div_eq_div_mul, ← Nat.div_div_eq_div_mul, byte_off _ _ h0, byte_off _ _ h1, byte_off _ _ h2, byte_off _ _ h3]
  rw [e, hc, add_step, add_step, add_step, add_last]
theorem fold_d (s e : Nat) (hs : s ≤ 64) : (s + 256 * e) % 128 = s := by omega
theorem bound1 (p e n : Nat) (hp : p < 256) (he : e < n) : p + 256 * e < 256 * n := by omega
theorem bound8 (p0 p1 p2 p3 p4 p5 p6 p7 : Nat) (h0 : p0 < 256) (h1 : p1 < 256) (h2 : p2 < 256) (h3 : p3 < 256) (h4 : p4 < 256) (h5 : p5 < 256) (h6 : p6 < 256) (h7 : p7 < 128) :
    p0 + 256 * (p1 + 256 * (p2 + 256 * (p3 + 256 * (p4 + 256 * (p5 + 256 * (p6 + 256 * p7)))))) < 9223372036854775808 := by
  exact bound1 _ _ 36028797018963968 h0 (bound1 _ _ 140737488355328 h1 (bound1 _ _ 549755813888 h2 (bound1 _ _ 2147483648 h3 (bound1 _ _ 8388608 h4 (bound1 _ _ 32768 h5 (bound1 _ _ 128 h6 h7))))))
theorem fold8 (p0 p1 p2 p3 p4 p5 p6 p7 c : Nat) (h0 : p0 ≤ 8) (h1 : p1 ≤ 8) (h2 : p2 ≤ 8) (h3 : p3 ≤ 8) (h4 : p4 ≤ 8) (h5 : p5 ≤ 8) (h6 : p6 ≤ 8) (h7 : p7 ≤ 8)
    (hc : c = p0 + 256 * (p1 + 256 * (p2 + 256 * (p3 + 256 * (p4 + 256 * (p5 + 256 * (p6 + 256 * p7))))))) :
    ∃ y1 y2 y3, y1 = c + c / 256 ∧ y2 = y1 + y1 / 65536 ∧ y3 = y2 + y2 / 4294967296 ∧ y3 < 9223372036854775808 ∧ y3 % 128 = p0 + p1 + p2 + p3 + p4 + p5 + p6 + p7 := by
  have f1 := fold_a p0 p1 p2 p3 p4 p5 p6 p7 c (by clear hc; omega) hc
  clear hc
  have f2 := fold_b _ _ _ _ _ _ _ _ _ (by clear f1; omega) (by clear f1; omega) f1
  clear f1
  have f3 := fold_c _ _ _ _ _ _ _ _ _ (by clear f2; omega) (by clear f2; omega) (by clear f2; omega) (by clear f2; omega) f2
  clear f2
  refine ⟨_, _, _, rfl, rfl, rfl, ?_, ?_⟩
  · rw [f3]; clear f3
    exact bound8 _ _ _ _ _ _ _ _ (by omega) (by omega) (by omega) (by omega) (by omega) (by omega) (by omega) (by omega)
  · rw [f3, fold_d _ _ (by clear f3; omega)]; clear f3; omega
/-- One byte. -/
theorem pop_byte (n m x : Nat) (hm : m = n + 1) (hx : x < 256 ^ m) : ∃ x' p, x' < 256 ^ n ∧ p ≤ 8 ∧ sC m (sB m (sA m x)) = p + 256 * sC n (sB n (sA n x')) ∧ ones (8 * m) x = p + ones (8 * n) x' := by
  subst hm
  refine ⟨x / 256, ones 8 (x % 256), by rw [Nat.pow_succ] at hx; omega, ones8_le ⟨x % 256, by omega⟩, by rw [sC_step n x hx, Nat.add_comm], ?_⟩
  rw [show 8 * (n + 1) = 8 + 8 * n by omega, ones_add 8 (8 * n) x, show (2 : Nat) ^ 8 = 256 from rfl]
  have := ones_mod 8 x
  rw [show (2 : Nat) ^ 8 = 256 from rfl] at this
  rw [this]
/-- The whole of it: 64 bits. -/
theorem pop64 (x : Nat) (hx : x < 256 ^ 8) : ∃ y1 y2 y3, y1 = sC 8 (sB 8 (sA 8 x)) + sC 8 (sB 8 (sA 8 x)) / 256 ∧ y2 = y1 + y1 / 65536 ∧ y3 = y2 + y2 / 4294967296 ∧ y3 < 9223372036854775808 ∧ y3 % 128 = ones (8 * 8) x := by
  obtain ⟨x1, p0, h1, q0, c0, o0⟩ := pop_byte 7 8 x rfl hx
  obtain ⟨x2, p1, h2, q1, c1, o1⟩ := pop_byte 6 7 x1 rfl h1
  obtain ⟨x3, p2, h3, q2, c2, o2⟩ := pop_byte 5 6 x2 rfl h2
  obtain ⟨x4, p3, h4, q3, c3, o3⟩ := pop_byte 4 5 x3 rfl h3
  obtain ⟨x5, p4, h5, q4, c4, o4⟩ := pop_byte 3 4 x4 rfl h4
  obtain ⟨x6, p5, h6, q5, c5, o5⟩ := pop_byte 2 3 x5 rfl h5
  obtain ⟨x7, p6, h7, q6, c6, o6⟩ := pop_byte 1 2 x6 rfl h6
  obtain ⟨x8, p7, h8, q7, c7, o7⟩ := pop_byte 0 1 x7 rfl h7
  have hz : sC 0 (sB 0 (sA 0 x8)) = 0 := by simp [sC, mm]
  have hz2 : ones (8 * 0) x8 = 0 := rfl
  rw [hz, Nat.mul_zero, Nat.add_zero] at c7
  rw [hz2, Nat.add_zero] at o7
  obtain ⟨y1, y2, y3, e1, e2, e3, e4, e5⟩ := fold8 p0 p1 p2 p3 p4 p5 p6 p7 _ q0 q1 q2 q3 q4 q5 q6 q7 rfl
  refine ⟨y1, y2, y3, ?_, e2, e3, e4, ?_⟩
  · rw [c0, c1, c2, c3, c4, c5, c6, c7]; exact e1
  · rw [o0, o1, o2, o3, o4, o5, o6, o7, e5]
    clear e1 e2 e3 e4 e5 c0 c1 c2 c3 c4 c5 c6 c7 o0 o1 o2 o3 o4 o5 o6 o7
    omega

theorem mm85 : mm 85 8 = 6148914691236517205 := by decide +kernel
theorem mm51 : mm 51 8 = 3689348814741910323 := by decide +kernel
theorem mm15 : mm 15 8 = 1085102592571150095 := by decide +kernel
theorem ipow8 : (256 : Nat) ^ 8 = 18446744073709551616 := by decide +kernel

theorem u64w (m : Nat) (h : m < 18446744073709551616) : IntKind.u64.wrap (m : Int) = m := by
  have e : (2 : Int) ^ IntKind.u64.bits = 18446744073709551616 := by decide
  have e2 : IntKind.u64.signed = false := rfl
  simp only [IntKind.wrap, e, e2, Bool.false_and, Bool.false_eq_true, if_false]
  omega
theorem stepA (n : Nat) (hn : n < 18446744073709551616) (hs : sA 8 n < 18446744073709551616) :
    IntKind.u64.wrap (bits .and .u64 ((n : Int) / 2) 6148914691236517205 + bits .and .u64 (n : Int) 6148914691236517205) = (sA 8 n : Int) := by
  have g1 := bits_and_u64_nat (n / 2) 6148914691236517205 (by omega) (by omega)
  have g2 := bits_and_u64_nat n 6148914691236517205 hn (by omega)
  rw [show ((n : Int) / 2) = ((n / 2 : Nat) : Int) by omega]
  simp only [Int.cast_ofNat_Int] at g1 g2
  rw [g1, g2, ← Int.natCast_add, u64w _ (by unfold sA at hs; rw [mm85] at hs; exact hs)]
  unfold sA; rw [mm85]
theorem stepB (n : Nat) (hn : n < 18446744073709551616) (hs : sB 8 n < 18446744073709551616) :
    IntKind.u64.wrap (bits .and .u64 ((n : Int) / 4) 3689348814741910323 + bits .and .u64 (n : Int) 3689348814741910323) = (sB 8 n : Int) := by
  have g1 := bits_and_u64_nat (n / 4) 3689348814741910323 (by omega) (by omega)
  have g2 := bits_and_u64_nat n 3689348814741910323 hn (by omega)
  rw [show ((n : Int) / 4) = ((n / 4 : Nat) : Int) by omega]
  simp only [Int.cast_ofNat_Int] at g1 g2
  rw [g1, g2, ← Int.natCast_add, u64w _ (by unfold sB at hs; rw [mm51] at hs; exact hs)]
  unfold sB; rw [mm51]
theorem stepC (n : Nat) (hs : n / 16 + n < 18446744073709551616) :
    bits .and .u64 (IntKind.u64.wrap ((n : Int) / 16 + (n : Int))) 1085102592571150095 = (sC 8 n : Int) := by
  have g1 := bits_and_u64_nat (n / 16 + n) 1085102592571150095 hs (by omega)
  rw [show ((n : Int) / 16 + (n : Int)) = ((n / 16 + n : Nat) : Int) by omega, u64w _ hs]
  simp only [Int.cast_ofNat_Int] at g1
  rw [g1]
  unfold sC; rw [mm15]
theorem stepD (y k z : Nat) (hz : z = y + y / k) (hl : z < 18446744073709551616) : IntKind.u64.wrap ((y : Int) + (y : Int) / (k : Int)) = (z : Int) := by
  rw [← Int.natCast_ediv, ← Int.natCast_add, ← hz, u64w _ hl]
theorem i64w (n : Int) (h1 : 0 ≤ n) (h2 : n < 2 ^ 63) : IntKind.i64.wrap n = n := by
  have e : (2 : Int) ^ IntKind.i64.bits = 18446744073709551616 := by decide
  have e2 : (2 : Int) ^ (IntKind.i64.bits - 1) = 9223372036854775808 := by decide
  have e3 : IntKind.i64.signed = true := rfl
  have e4 : (2 : Int) ^ 63 = 9223372036854775808 := by decide
  rw [e4] at h2
  have e5 : n % 18446744073709551616 = n := by omega
  simp only [IntKind.wrap, e, e2, e3, e5, Bool.true_and, decide_eq_true_eq]
  rw [if_neg (by omega)]
theorem stepE (y : Nat) (hy : y < 9223372036854775808) : bits .and .i64 (y : Int) 127 = ((y % 128 : Nat) : Int) := by
  have h := bits_mask .i64 63 (by decide) (fun n h1 h2 => i64w n h1 h2) 7 (by decide) (y : Int) (by omega) (by omega)
  have e : ((2 : Int) ^ 7 - 1) = 127 := by decide
  have e2 : ((2 : Int) ^ 7) = 128 := by decide
  rw [e, e2] at h
  rw [h]
  omega

set_option maxRecDepth 100000 in
theorem onesCount64 (n : Nat) (hn : n < 18446744073709551616) (w : World) : Calls Tryd.prog 79 #[.int .u64 n] w fun e w' => e = .returned (.int .i64 (ones 64 n)) ∧ w' = w := by
  have hn8 : n < 256 ^ 8 := by rw [ipow8]; exact hn
  obtain ⟨y1, y2, y3, e1, e2, e3, e4, e5⟩ := pop64 n hn8
  obtain ⟨s1, s2, s3, s4⟩ := swar 8 n hn8
  rw [ipow8] at s1 s2 s4
  have e5' : y3 % 128 = ones 64 n := e5
  have hA := Lib.hid (stepA n hn s1)
  have hB := Lib.hid (stepB _ s1 s2)
  have hC := Lib.hid (stepC _ s4)
  generalize sA 8 n = a at *
  generalize sB 8 a = b at *
  generalize sC 8 b = c at *
  have l3 : y2 ≤ y3 := by rw [e3]; exact Nat.le_add_right _ _
  have l2 : y1 ≤ y2 := by rw [e2]; exact Nat.le_add_right _ _
  have hD := Lib.hid (stepD c 256 y1 e1 (by omega))
  have hE := Lib.hid (stepD y1 65536 y2 e2 (by omega))
  have hF := Lib.hid (stepD y2 4294967296 y3 e3 (by omega))
  have hG := Lib.hid (stepE y3 e4)
  have e6 : (0 : Int) ≤ y3 ∧ (y3 : Int) ≤ 9223372036854775807 := by omega
  obtain ⟨e6, e7⟩ := e6
  rw [e5'] at hG
  clear s1 s2 s3 s4 e1 e2 e3 e5 e5' l2 l3
  go_enter Tryd.func79, Tryd.ntmps79
  go_upto_region 2 with (fail)
  rw [hA.out]
  go_upto_region 3 with (fail)
  rw [hB.out]
  go_upto_region 4 with (fail)
  rw [hC.out]
  go_upto_region 5 with (fail)
  have hD' := hD.out
  simp only [Int.cast_ofNat_Int] at hD'
  rw [hD']; clear hD'
  go_upto_region 6 with (fail)
  have hE' := hE.out
  simp only [Int.cast_ofNat_Int] at hE'
  rw [hE']; clear hE'
  go_upto_region 7 with (fail)
  have hF' := hF.out
  simp only [Int.cast_ofNat_Int] at hF'
  rw [hF']; clear hF'
  go_wp2
  rw [hG.out]
  exact bodyPost_ret (v := .int .i64 (ones 64 n)) (by simp [results, Tryd.results79, go_sem]) rfl ⟨rfl, rfl⟩
end
section
open Go Go.RowKit

def hlist (f : Nat → Int) (k : Nat) : List Int := ((List.range k).filter (fun c : Nat => hasC f (c : Int))).map (fun c : Nat => (c : Int))
theorem hlist_hit {f : Nat → Int} {k : Nat} (h : hasC f (k : Int) = true) : hlist f (k + 1) = hlist f k ++ [(k : Int)] := by
  simp [hlist, List.range_succ, List.filter_append, h]
theorem hlist_miss {f : Nat → Int} {k : Nat} (h : hasC f (k : Int) = false) : hlist f (k + 1) = hlist f k := by
  simp [hlist, List.range_succ, List.filter_append, h]
theorem hlist_le (f : Nat → Int) (k : Nat) : (hlist f k).length ≤ k := by
  have := List.length_filter_le (fun c : Nat => hasC f (c : Int)) (List.range k)
  simpa [hlist] using this
theorem infoI64 : (Tryd.prog.info? 2).map (fun i => (i.zero, i.size, i.bytes)) = some (some (.int .i64 0), 1, 8) := by kernel_rfl
theorem list_keep {f : Nat → Int} {k n₀ : Nat} {w wr w1 : World} {v v' : Value} {o : Obj} (h : hasC f (k : Int) = true) (hn : n₀ = w.heap.size)
    (hown : wr.ownsRow n₀ 2 1 v (hlist f k).length ((hlist f k).map (Value.int .i64))) (hnx : Below n₀ w wr)
    (hown' : w1.ownsRow n₀ 2 1 v' ((hlist f k).length + 1) ((hlist f k).map (Value.int .i64) ++ [.int .i64 k])) (hgrow : (wr.alloc o).grownBy w1 v.ownBlock) :
    w1.ownsRow n₀ 2 1 v' (hlist f (k + 1)).length ((hlist f (k + 1)).map (Value.int .i64)) ∧ Below n₀ w w1 := by
  have hsz := hnx.size
  refine ⟨by rw [hlist_hit h]; simpa using hown', (hnx.alloc (by omega) o).grown hgrow (by simp; omega) (fun j hj => (hown.lt j hj).1)⟩

end
section
open Go Go.RowKit

/-- The set of two words, each made of two words; bits of numbers greater than 99 are left away. -/
def opC (op : BinOp) (f g : Nat → Int) (i : Nat) : Int := if i = 0 then bits op .u64 (f 0) (g 0) else bits .and .u64 (bits op .u64 (f 1) (g 1)) 68719476735
theorem two_cellsU (f : Nat → Int) : acells .u64 2 f = #[.int .u64 (f 0), .int .u64 (f 1)] := rfl

set_option maxRecDepth 100000 in
theorem onlyNumbers_any (x y : Int) (w : World) : Calls Tryd.prog 77 #[.agg #[.int .u64 x, .int .u64 y]] w fun e w' => e = .returned (.agg #[.int .u64 x, .int .u64 (bits .and .u64 y 68719476735)]) ∧ Below w.heap.size w w' := by
  go_enter Tryd.func77, Tryd.ntmps77
  go_wp2_with fail
  exact bodyPost_ret (v := .agg #[.int .u64 x, .int .u64 (bits .and .u64 y 68719476735)]) (by simp [results, Tryd.results77, go_sem]) rfl ⟨rfl, ((Below.refl _ _).alloc (Nat.le_refl _) _).alloc (by simp) _⟩
set_option maxRecDepth 100000 in
set_option maxHeartbeats 400000 in
theorem implBothOf (f g : Nat → Int) (w : World) : Calls Tryd.prog 57 #[.agg (acells .u64 2 f), .agg (acells .u64 2 g)] w fun e w' => e = .returned (.agg (acells .u64 2 (opC .and f g))) ∧ Below w.heap.size w w' := by
  go_enter Tryd.func57, Tryd.ntmps57
  go_upto_region 1 with (fail)
  obtain ⟨W, hW, M⟩ := open3 w (acells .u64 2 f) 38 (acells .u64 2 g) 38 #[.int .u64 0, .int .u64 0] 38
  rw [hW]; clear hW
  have c0 := (M.at 0 rfl).cell (acells_get _ _ f 0 (by omega))
  have c1 := (M.at 0 rfl).cell (acells_get _ _ f 1 (by omega))
  have g0 := (M.at 1 rfl).cell (acells_get _ _ g 0 (by omega))
  have g1 := (M.at 1 rfl).cell (acells_get _ _ g 1 (by omega))
  go_wp2_with (go_at_call 77; refine (onlyNumbers_any _ _ _).mono ?_; rintro e w1 ⟨rfl, hb⟩; have M1 := M.call hb; have d0 := (M1.at 2 rfl).cell (i := 0) (v := .int .u64 0) rfl; have d1 := (M1.at 2 rfl).cell (i := 1) (v := .int .u64 0) rfl; have e0 := (M1.at 2 rfl).free 0; have e1 := (M1.at 2 rfl).free 1)
  have M2 := (M1.set 2 0 (.int .u64 (opC .and f g 0)) rfl _ rfl).set 2 1 (.int .u64 (opC .and f g 1)) rfl _ rfl
  exact bodyPost_ret (results_cell_row rfl _ _ (w.heap.size + 1 + 1) 38 _ _ _ rfl (M2.at 2 rfl) Tryd.underlying38 rfl (by kernel_rfl)) rfl ⟨rfl, M2.below⟩
end
section
open Go Go.RowKit

attribute [local irreducible] ones
theorem ones_zero_bits (x : Nat) : ones 0 x = 0 := by unfold ones; rfl
theorem ones_step (k x : Nat) : ones (k + 1) x = x % 2 + ones k (x / 2) := by conv => lhs; unfold ones
theorem ones_last (k x : Nat) : ones (k + 1) x = ones k x + x / 2 ^ k % 2 := by
  rw [ones_add k 1 x, ones_step, ones_zero_bits]; simp
theorem ones_zero : ∀ k, ones k 0 = 0
  | 0 => ones_zero_bits 0
  | k + 1 => by rw [ones_step]; simp [ones_zero k]
theorem bit_one (a : Nat) (ha : a < 18446744073709551616) : (bits .and .u64 (a : Int) 1 == 1) = decide (a % 2 = 1) := by
  have h := bits_and_u64_nat a 1 ha (by omega)
  simp only [Int.cast_ofNat_Int] at h
  rw [h, show a &&& 1 = a % 2 from Nat.and_one_is_mod a]
  by_cases h2 : a % 2 = 1 <;> simp [h2] <;> omega
theorem hasC_low {f : Nat → Int} {x k : Nat} (hf : f 0 = x) (hx : x < 18446744073709551616) (hk : k < 64) : hasC f (k : Int) = decide (x / 2 ^ k % 2 = 1) := by
  have e1 : inB (k : Int) 0 99 = true := by simp [inB]; omega
  have e2 : ((k : Int) % 64).toNat = k := by omega
  have e3 : ((x : Int) / 2 ^ k) = ((x / 2 ^ k : Nat) : Int) := by simp
  unfold hasC
  rw [e1, if_pos (by omega), e2, hf, e3, bit_one _ (Nat.lt_of_le_of_lt (Nat.div_le_self _ _) hx)]
  simp
theorem hasC_high {f : Nat → Int} {y k : Nat} (hf : f 1 = y) (hy : y < 18446744073709551616) (hk : k < 36) : hasC f ((64 + k : Nat) : Int) = decide (y / 2 ^ k % 2 = 1) := by
  have e1 : inB ((64 + k : Nat) : Int) 0 99 = true := by simp [inB]; omega
  have e2 : (((64 + k : Nat) : Int) % 64).toNat = k := by omega
  have e3 : ((y : Int) / 2 ^ k) = ((y / 2 ^ k : Nat) : Int) := by simp
  unfold hasC
  rw [e1, if_neg (by omega), e2, hf, e3, bit_one _ (Nat.lt_of_le_of_lt (Nat.div_le_self _ _) hy)]
  simp
theorem hlist_succ (f : Nat → Int) (k : Nat) : (hlist f (k + 1)).length = (hlist f k).length + (if hasC f (k : Int) = true then 1 else 0) := by
  cases h : hasC f (k : Int) with
  | true => rw [hlist_hit h]; simp
  | false => rw [hlist_miss h]; simp
theorem count_low {f : Nat → Int} {x : Nat} (hf : f 0 = x) (hx : x < 18446744073709551616) : ∀ k, k ≤ 64 → (hlist f k).length = ones k x
  | 0, _ => by rw [ones_zero_bits]; rfl
  | k + 1, h => by
    rw [hlist_succ, count_low hf hx k (by omega), ones_last k x, hasC_low hf hx (by omega)]
    by_cases h2 : x / 2 ^ k % 2 = 1 <;> simp [h2]; omega
theorem count_high {f : Nat → Int} {x y : Nat} (hf : f 0 = x) (hx : x < 18446744073709551616) (hg : f 1 = y) (hy : y < 18446744073709551616) : ∀ k, k ≤ 36 → (hlist f (64 + k)).length = ones 64 x + ones k y
  | 0, _ => by rw [ones_zero_bits, Nat.add_zero, Nat.add_zero]; exact count_low hf hx 64 (Nat.le_refl _)
  | k + 1, h => by
    rw [show 64 + (k + 1) = (64 + k) + 1 by omega, hlist_succ, count_high hf hx hg hy k (by omega), ones_last k y, hasC_high hg hy (by omega)]
    by_cases h2 : y / 2 ^ k % 2 = 1 <;> simp [h2] <;> omega
theorem ones_cut (k m y : Nat) : ones (k + m) (y % 2 ^ k) = ones k y := by
  rw [ones_add, Nat.div_eq_of_lt (Nat.mod_lt _ (Nat.two_pow_pos k)), ones_zero, Nat.add_zero, ones_mod]
theorem two36 : (2 : Nat) ^ 36 = 68719476736 := by decide +kernel
theorem ones_masked (y : Nat) : ones 64 (y % 68719476736) = ones 36 y := two36 ▸ ones_cut 36 28 y
theorem ones_le : ∀ (k x : Nat), ones k x ≤ k
  | 0, x => by rw [ones_zero_bits]; exact Nat.le_refl _
  | k + 1, x => by have := ones_le k (x / 2); rw [ones_step]; omega
theorem masked (y : Nat) (hy : y < 18446744073709551616) : bits .and .u64 (y : Int) 68719476735 = ((y % 68719476736 : Nat) : Int) := by
  have h := bits_and_u64_nat y 68719476735 hy (by omega)
  simp only [Int.cast_ofNat_Int] at h
  have e := Nat.and_two_pow_sub_one_eq_mod y 36
  rw [two36] at e
  rw [h, ← e]

set_option maxRecDepth 100000 in
theorem implCountCells (x y : Nat) (hx : x < 18446744073709551616) (hy : y < 18446744073709551616) (w : World) : Calls Tryd.prog 59 #[.agg #[.int .u64 x, .int .u64 y]] w fun e w' =>
    e = .returned (.int .i64 ((ones 64 x + ones 36 y : Nat) : Int)) ∧ Below w.heap.size w w' := by
  have hmk := Lib.hid (masked y hy)
  have b1 := ones_le 64 x
  have b2 := ones_le 36 y
  have hym : y % 68719476736 < 18446744073709551616 := by omega
  have hoy := Lib.hid (ones_masked y)
  go_enter Tryd.func59, Tryd.ntmps59
  go_upto_region 1 with (fail)
  obtain ⟨W, hW, M⟩ := open1 w #[.int .u64 (x : Int), .int .u64 (y : Int)] 38
  rw [hW]; clear hW
  have c0 := (M.at 0 rfl).cell (i := 0) (v := .int .u64 x) rfl
  have c1 := (M.at 0 rfl).cell (i := 1) (v := .int .u64 y) rfl
  go_upto_region 2 with (go_at_call 77; refine (onlyNumbers_any _ _ _).mono ?_; rintro e w1 ⟨rfl, hb⟩; rw [hmk.out]; have M1 := M.call hb; have d0 := (M1.at 0 rfl).cell (i := 0) (v := .int .u64 x) rfl; have d1 := (M1.at 0 rfl).cell (i := 1) (v := .int .u64 y) rfl; have e0 := (M1.at 0 rfl).free 0; have e1 := (M1.at 0 rfl).free 1)
  rw [show ((y : Int) % 68719476736) = ((y % 68719476736 : Nat) : Int) by omega]
  generalize hym2 : y % 68719476736 = z at *
  have M2 := (M1.set 0 0 (.int .u64 x) rfl _ rfl).set 0 1 (.int .u64 z) rfl _ rfl
  have f0 := (M2.at 0 rfl).cell (i := 0) (v := .int .u64 x) rfl
  have f1 := (M2.at 0 rfl).cell (i := 1) (v := .int .u64 z) rfl
  have M3 := M2.drew
  generalize (w1.setCell ⟨w.heap.size, 0, none⟩ (.int .u64 (x : Int))).setCell ⟨w.heap.size, 1, none⟩ (.int .u64 (z : Int)) = W2 at *
  clear d0 d1 e0 e1 M1 M c0 c1
  go_quiet (first | (go_at_call 79; exact Calls.quiet_of_same (onesCount64 _ (by assumption) _)))
  have hw : wrap64 ((ones 64 x : Int) + (ones 64 z : Int)) = ((ones 64 x + ones 36 y : Nat) : Int) := by
    rw [hoy.out, ← Int.natCast_add]
    have : ones 64 x + ones 36 y ≤ 100 := by omega
    generalize ones 64 x + ones 36 y = q at *
    unfold wrap64
    omega
  rw [hw]
  go_wp2
  exact bodyPost_ret (v := .int .i64 ((ones 64 x + ones 36 y : Nat) : Int)) (by simp [results, Tryd.results59, go_sem]) rfl ⟨rfl, (M2.drewN nq).out⟩

theorem wf_u64 {n : Int} (h : (Lit.int .u64 n).wf = true) : 0 ≤ n ∧ n < 18446744073709551616 := by
  have e1 : IntKind.u64.min = 0 := by decide
  have e2 : IntKind.u64.max = 18446744073709551615 := by decide
  simp [Lit.wf, e1, e2] at h
  omega
theorem countCells_any (f : Nat → Int) (hf : ∀ i, i < 2 → (Lit.int .u64 (f i)).wf = true) (w : World) : Calls Tryd.prog 59 #[.agg (acells .u64 2 f)] w fun e w' =>
    e = .returned (.int .i64 (hlist f 100).length) ∧ Below w.heap.size w w' := by
  obtain ⟨a0, a1⟩ := wf_u64 (hf 0 (by omega))
  obtain ⟨b0, b1⟩ := wf_u64 (hf 1 (by omega))
  have ha : f 0 = ((f 0).toNat : Int) := by omega
  have hb : f 1 = ((f 1).toNat : Int) := by omega
  have hc := count_high ha (by omega) hb (by omega) 36 (Nat.le_refl _)
  have e : acells .u64 2 f = #[.int .u64 ((f 0).toNat : Int), .int .u64 ((f 1).toNat : Int)] := by
    rw [← ha, ← hb]; simp [acells, List.range_succ]
  rw [e, show (100 : Nat) = 64 + 36 from rfl, hc]
  exact implCountCells _ _ (by omega) (by omega) w
end
section
open Go Go.RowKit

/-- Both words are words. -/
def U64 (g : Nat → Int) : Prop := ∀ i, 0 ≤ g i ∧ g i < 18446744073709551616
theorem and_bit (a : Nat) (ha : a < 18446744073709551616) : (bits .and .u64 (a : Int) 1 == 1) = decide (a % 2 = 1) := by
  have h := bits_and_u64_nat a 1 ha (by omega)
  simp only [Int.cast_ofNat_Int] at h
  rw [h, show a &&& 1 = a % 2 from Nat.and_one_is_mod a]
  by_cases h2 : a % 2 = 1 <;> simp [h2] <;> omega
theorem hasC_bit {g : Nat → Int} {k a : Nat} (hk : k < 100) (hg : g (k / 64) = (a : Int)) (ha : a < 18446744073709551616) : hasC g (k : Int) = a.testBit (k % 64) := by
  have e1 : inB (k : Int) 0 99 = true := by simp [inB]; omega
  have e2 : ((k : Int) % 64).toNat = k % 64 := by omega
  have e3 : ((a : Int) / 2 ^ (k % 64)) = ((a / 2 ^ (k % 64) : Nat) : Int) := by simp
  have e4 : (if (k : Int) < 64 then g 0 else g 1) = (a : Int) := by
    by_cases h : k < 64
    · rw [if_pos (by omega), ← hg, show k / 64 = 0 by omega]
    · rw [if_neg (by omega), ← hg, show k / 64 = 1 by omega]
  unfold hasC
  rw [e1, e4, e2, e3, and_bit _ (Nat.lt_of_le_of_lt (Nat.div_le_self _ _) ha), Nat.testBit_eq_decide_div_mod_eq, Bool.true_and]
theorem wrap_two : ∀ k : Fin 64, IntKind.u64.wrap (2 ^ k.val) = ((2 ^ k.val : Nat) : Int) := by decide +kernel
theorem two_lt (k : Nat) (hk : k < 64) : 2 ^ k < 18446744073709551616 := by
  have e : (18446744073709551616 : Nat) = 2 ^ 64 := by decide +kernel
  rw [e]; exact Nat.pow_lt_pow_right (by omega) hk
theorem withBit_nat (a k : Nat) (ha : a < 18446744073709551616) (hk : k < 64) : withBit (a : Int) k = ((a ||| 2 ^ k : Nat) : Int) := by
  unfold withBit
  rw [wrap_two ⟨k, hk⟩]
  exact bits_or_u64_nat a (2 ^ k) ha (two_lt k hk)
theorem or_lt (a k : Nat) (ha : a < 18446744073709551616) (hk : k < 64) : a ||| 2 ^ k < 18446744073709551616 := by
  have e : (18446744073709551616 : Nat) = 2 ^ 64 := by decide +kernel
  rw [e] at ha ⊢
  exact Nat.or_lt_two_pow ha (Nat.pow_lt_pow_right (by omega) hk)
theorem putC_u64 {g : Nat → Int} (hg : U64 g) (k : Nat) : U64 (putC g k) := fun i => by
  unfold putC
  by_cases e : i = k / 64
  · rw [if_pos e]
    obtain ⟨h1, h2⟩ := hg i
    obtain ⟨a, ha⟩ : ∃ a : Nat, g i = (a : Int) := ⟨(g i).toNat, by omega⟩
    have hlt : a < 18446744073709551616 := by omega
    have h64 : k % 64 < 64 := Nat.mod_lt _ (by omega)
    rw [ha, withBit_nat a _ hlt h64]
    have := or_lt a (k % 64) hlt h64
    omega
  · rw [if_neg e]; exact hg i
theorem hasC_put {g : Nat → Int} (hg : U64 g) {k j : Nat} (hj : j < 100) : hasC (putC g k) (j : Int) = (hasC g (j : Int) || decide (j = k)) := by
  obtain ⟨h1, h2⟩ := hg (j / 64)
  obtain ⟨a, ha⟩ : ∃ a : Nat, g (j / 64) = (a : Int) := ⟨(g (j / 64)).toNat, by omega⟩
  have hlt : a < 18446744073709551616 := by omega
  have h64 : k % 64 < 64 := Nat.mod_lt _ (by omega)
  rw [hasC_bit hj ha hlt]
  by_cases e : j / 64 = k / 64
  · have hp : putC g k (j / 64) = ((a ||| 2 ^ (k % 64) : Nat) : Int) := by unfold putC; rw [if_pos e, ha, withBit_nat a _ hlt h64]
    rw [hasC_bit hj hp (or_lt a _ hlt h64), Nat.testBit_or, Nat.testBit_two_pow]
    congr 1
    rw [Bool.eq_iff_iff, decide_eq_true_eq, decide_eq_true_eq]
    omega
  · have hp : putC g k (j / 64) = (a : Int) := by unfold putC; rw [if_neg e, ha]
    rw [hasC_bit hj hp hlt, decide_eq_false (show ¬ j = k by rintro rfl; exact e rfl), Bool.or_false]
theorem hasC_zero (j : Nat) (hj : j < 100) : hasC (fun _ => 0) (j : Int) = false := by
  rw [hasC_bit (g := fun _ => 0) (a := 0) hj rfl (by omega), Nat.zero_testBit]
theorem want_u64 (f : Fd) (q : Nat → Bool) : ∀ n, U64 (wantSet f q n)
  | 0 => fun _ => by simp [wantSet]
  | n + 1 => by
    cases h : (isCell f n && q n) with
    | true =>
      simp only [Bool.and_eq_true] at h
      rw [wantSet_yes h.1 h.2]; exact putC_u64 (want_u64 f q n) n
    | false => rw [wantSet_no h]; exact want_u64 f q n
/-- The wanted set has the wanted cells. -/
theorem hasC_want (f : Fd) (q : Nat → Bool) {j : Nat} (hj : j < 100) : ∀ n, hasC (wantSet f q n) (j : Int) = (decide (j < n) && (isCell f j && q j))
  | 0 => by rw [show wantSet f q 0 = fun _ => 0 from rfl, hasC_zero j hj]; simp
  | n + 1 => by
    have ih := hasC_want f q hj n
    cases h : (isCell f n && q n) with
    | true =>
      have h' := h
      simp only [Bool.and_eq_true] at h'
      rw [wantSet_yes h'.1 h'.2, hasC_put (want_u64 f q n) hj, ih]
      by_cases e : j = n
      · subst e; rw [h]; simp
      · rw [decide_eq_false e, Bool.or_false]
        congr 1
        rw [Bool.eq_iff_iff, decide_eq_true_eq, decide_eq_true_eq]; omega
    | false =>
      rw [wantSet_no h, ih]
      by_cases e : j = n
      · subst e; rw [h]; simp
      · congr 1
        rw [Bool.eq_iff_iff, decide_eq_true_eq, decide_eq_true_eq]; omega
/-- Where no cell below n is wanted, the set is empty. -/
theorem want_none (f : Fd) (q : Nat → Bool) : ∀ n, (∀ j : Nat, j < n → (isCell f j && q j) = false) → wantSet f q n = fun _ => 0
  | 0, _ => rfl
  | n + 1, h => by rw [wantSet_no (h n (by omega))]; exact want_none f q n (fun j hj => h j (by omega))
theorem want_some {f : Fd} {q : Nat → Bool} {j : Nat} (hj : j < 100) (h : (isCell f j && q j) = true) : ¬ (wantSet f q 100 0 = 0 ∧ wantSet f q 100 1 = 0) := fun e => by
  have h1 := hasC_want f q hj 100
  rw [h, decide_eq_true hj] at h1
  have h2 : hasC (wantSet f q 100) (j : Int) = hasC (fun _ => 0) (j : Int) := by unfold hasC; rw [e.1, e.2]
  rw [h2, hasC_zero j hj] at h1
  cases h1
end
section
open Go Go.RowKit

/-- A set that has no bit of a number greater than 99. -/
def N100 (g : Nat → Int) : Prop := U64 g ∧ g 1 < 68719476736
/-- Two sets, word by word. -/
def joinC (op : BinOp) (f g : Nat → Int) (i : Nat) : Int := bits op .u64 (f i) (g i)
theorem and_of (a b : Nat) (ha : a < 18446744073709551616) (hb : b < 18446744073709551616) : bits .and .u64 (a : Int) (b : Int) = ((a &&& b : Nat) : Int) := bits_and_u64_nat a b ha hb
theorem nat_of {g : Nat → Int} (hg : U64 g) (i : Nat) : ∃ a : Nat, g i = (a : Int) ∧ a < 18446744073709551616 := ⟨(g i).toNat, by have := hg i; omega, by have := hg i; omega⟩
theorem mask_small (z : Nat) (h : z < 68719476736) : bits .and .u64 (z : Int) 68719476735 = (z : Int) := by
  have h2 := and_of z 68719476735 (by omega) (by omega)
  have e : z &&& 68719476735 = z := by
    have h3 := Nat.and_two_pow_sub_one_eq_mod z 36
    have e1 : (2 ^ 36 - 1 : Nat) = 68719476735 := by decide +kernel
    have e2 : (2 ^ 36 : Nat) = 68719476736 := by decide +kernel
    rw [e1, e2] at h3
    rw [h3, Nat.mod_eq_of_lt h]
  rw [e] at h2
  exact h2
theorem mask_lt (z : Nat) (h : z < 18446744073709551616) : bits .and .u64 (z : Int) 68719476735 = ((z % 68719476736 : Nat) : Int) := by
  have h2 := and_of z 68719476735 h (by omega)
  have h3 := Nat.and_two_pow_sub_one_eq_mod z 36
  have e1 : (2 ^ 36 - 1 : Nat) = 68719476735 := by decide +kernel
  have e2 : (2 ^ 36 : Nat) = 68719476736 := by decide +kernel
  rw [e1, e2] at h3
  rw [h3] at h2
  exact h2
theorem or_bound {n : Nat} {a b : Nat} (ha : a < 2 ^ n) (hb : b < 2 ^ n) : a ||| b < 2 ^ n := Nat.or_lt_two_pow ha hb
theorem p36 : (68719476736 : Nat) = 2 ^ 36 := by decide +kernel
theorem p64 : (18446744073709551616 : Nat) = 2 ^ 64 := by decide +kernel
theorem or_nat {f g : Nat → Int} (hf : U64 f) (hg : U64 g) (i : Nat) : ∃ a b : Nat, f i = (a : Int) ∧ g i = (b : Int) ∧ a < 18446744073709551616 ∧ b < 18446744073709551616 ∧ joinC .or f g i = ((a ||| b : Nat) : Int) ∧ joinC .and f g i = ((a &&& b : Nat) : Int) := by
  obtain ⟨a, ea, ha⟩ := nat_of hf i
  obtain ⟨b, eb, hb⟩ := nat_of hg i
  exact ⟨a, b, ea, eb, ha, hb, by unfold joinC; rw [ea, eb]; exact bits_or_u64_nat a b ha hb, by unfold joinC; rw [ea, eb]; exact and_of a b ha hb⟩
theorem or_u64 {f g : Nat → Int} (hf : U64 f) (hg : U64 g) : U64 (joinC .or f g) := fun i => by
  obtain ⟨a, b, _, _, ha, hb, h, _⟩ := or_nat hf hg i
  rw [p64] at ha hb
  have := or_bound ha hb
  rw [← p64] at this
  rw [h]; omega
theorem or_N100 {f g : Nat → Int} (hf : N100 f) (hg : N100 g) : N100 (joinC .or f g) := ⟨or_u64 hf.1 hg.1, by
  obtain ⟨a, b, ea, eb, _, _, h, _⟩ := or_nat hf.1 hg.1 1
  have h1 := hf.2
  have h2 := hg.2
  rw [ea] at h1
  rw [eb] at h2
  have h1' : a < 2 ^ 36 := by rw [← p36]; omega
  have h2' : b < 2 ^ 36 := by rw [← p36]; omega
  have := or_bound h1' h2'
  rw [← p36] at this
  rw [h]; omega⟩
theorem and_u64 {f g : Nat → Int} (hf : U64 f) (hg : U64 g) : U64 (joinC .and f g) := fun i => by
  obtain ⟨a, b, _, _, ha, _, _, h⟩ := or_nat hf hg i
  have : a &&& b ≤ a := Nat.and_le_left
  rw [h]; omega
theorem and_N100 {f g : Nat → Int} (hf : N100 f) (hg : U64 g) : N100 (joinC .and f g) := ⟨and_u64 hf.1 hg, by
  obtain ⟨a, b, ea, _, _, _, _, h⟩ := or_nat hf.1 hg 1
  have h1 := hf.2
  rw [ea] at h1
  have : a &&& b ≤ a := Nat.and_le_left
  rw [h]; omega⟩
/-- What is masked is as it was, where there is nothing to mask. -/
theorem opC_join {op : BinOp} {f g : Nat → Int} (h : N100 (joinC op f g)) : acells .u64 2 (opC op f g) = acells .u64 2 (joinC op f g) := acells_congr (fun i hi => by
  unfold opC
  by_cases e : i = 0
  · rw [if_pos e, e]; rfl
  · rw [if_neg e, show i = 1 by omega]
    obtain ⟨z, ez, _⟩ := nat_of h.1 1
    have h2 := h.2
    show bits .and .u64 (joinC op f g 1) 68719476735 = joinC op f g 1
    rw [ez] at h2 ⊢
    exact mask_small z (by omega))
theorem word_zero {g : Nat → Int} (hg : N100 g) (h : ∀ j : Nat, j < 100 → hasC g (j : Int) = false) : g 0 = 0 ∧ g 1 = 0 := by
  obtain ⟨a, ea, ha⟩ := nat_of hg.1 0
  obtain ⟨b, eb, hb⟩ := nat_of hg.1 1
  have hb2 := hg.2
  rw [eb] at hb2
  constructor
  · rw [ea]
    have : a = 0 := Nat.eq_of_testBit_eq (fun i => by
      rw [Nat.zero_testBit]
      by_cases hi : i < 64
      · have h1 := h i (by omega)
        rw [hasC_bit (a := a) (by omega) (by rw [Nat.div_eq_of_lt hi]; exact ea) ha, Nat.mod_eq_of_lt hi] at h1
        exact h1
      · rw [p64] at ha
        exact Nat.testBit_lt_two_pow (Nat.lt_of_lt_of_le ha (Nat.pow_le_pow_right (by omega) (by omega))))
    omega
  · rw [eb]
    have : b = 0 := Nat.eq_of_testBit_eq (fun i => by
      rw [Nat.zero_testBit]
      by_cases hi : i < 36
      · have h1 := h (64 + i) (by omega)
        rw [hasC_bit (a := b) (by omega) (by rw [show (64 + i) / 64 = 1 by omega]; exact eb) hb, show (64 + i) % 64 = i by omega] at h1
        exact h1
      · have hb3 : b < 2 ^ 36 := by rw [← p36]; omega
        exact Nat.testBit_lt_two_pow (Nat.lt_of_lt_of_le hb3 (Nat.pow_le_pow_right (by omega) (by omega))))
    omega
theorem hasC_and {f g : Nat → Int} (hf : U64 f) (hg : U64 g) {j : Nat} (hj : j < 100) : hasC (joinC .and f g) (j : Int) = (hasC f (j : Int) && hasC g (j : Int)) := by
  obtain ⟨a, b, ea, eb, ha, hb, _, h⟩ := or_nat hf hg (j / 64)
  have : a &&& b ≤ a := Nat.and_le_left
  rw [hasC_bit hj h (by omega), hasC_bit hj ea ha, hasC_bit hj eb hb, Nat.testBit_and]
/-- Nothing in common: both words are zero. -/
theorem meet_zero {f g : Nat → Int} (hf : N100 f) (hg : U64 g) : (joinC .and f g 0 = 0 ∧ joinC .and f g 1 = 0) ↔ ∀ j : Nat, j < 100 → (hasC f (j : Int) && hasC g (j : Int)) = false := by
  constructor
  · intro h j hj
    rw [← hasC_and hf.1 hg hj]
    have h2 : hasC (joinC .and f g) (j : Int) = hasC (fun _ => 0) (j : Int) := by unfold hasC; rw [h.1, h.2]
    rw [h2, hasC_zero j hj]
  · intro h
    exact word_zero (and_N100 hf hg) (fun j hj => by rw [hasC_and hf.1 hg hj]; exact h j hj)
theorem zero_N100 : N100 (fun _ => 0) := ⟨fun _ => by simp, by simp⟩
theorem putC_N100 {g : Nat → Int} (hg : N100 g) {k : Nat} (hk : k < 100) : N100 (putC g k) := ⟨putC_u64 hg.1 k, by
  unfold putC
  by_cases e : 1 = k / 64
  · rw [if_pos e]
    obtain ⟨b, eb, hb⟩ := nat_of hg.1 1
    have h2 := hg.2
    have h64 : k % 64 < 64 := Nat.mod_lt _ (by omega)
    rw [eb] at h2 ⊢
    rw [withBit_nat b _ hb h64]
    have h36 : k % 64 < 36 := by omega
    have h3 : b < 2 ^ 36 := by rw [← p36]; omega
    have := or_bound h3 (Nat.pow_lt_pow_right (by omega) h36 : 2 ^ (k % 64) < 2 ^ 36)
    rw [← p36] at this
    omega
  · rw [if_neg e]; exact hg.2⟩
theorem lit_word {n : Int} (h : 0 ≤ n ∧ n < 18446744073709551616) : (Lit.int .u64 n).wf = true := by
  have e1 : IntKind.u64.min = 0 := by decide
  have e2 : IntKind.u64.max = 18446744073709551615 := by decide
  simp [Lit.wf, e1, e2]
  omega
/-- Two sets compared. -/
theorem run_eqC (f g : Nat → Int) (hf : U64 f) (hg : U64 g) (q : Bool) (hq : q = true ↔ (f 0 = g 0 ∧ f 1 = g 1)) (w : World) : (Op.equalIn 10000 38 (.agg (acells .u64 2 f)) (.agg (acells .u64 2 g))).run Tryd.prog w = .ok q w := by
  have hk : Tryd.prog.keyTypeAt 5 38 = true := by kernel_rfl
  have fm : ∀ f, (Value.agg (acells .u64 2 f)).formed Tryd.prog 38 = true := fun f => by
    simp only [Value.formed, Tryd.underlying38, acells_size]; kernel_rfl
  obtain ⟨r, hr, hiff⟩ := run_equalIn_deep 9995 5 38 hk w _ _ (.agg (acells .u64 2 f)) (.agg (acells .u64 2 g)) _ _ (fm f) (fm g)
    (keyLits_ints 0 Tryd.underlying38 Tryd.underlying36 (by kernel_rfl) (by kernel_rfl) f (fun i hi => lit_word (hf i))) (keyLits_ints 0 Tryd.underlying38 Tryd.underlying36 (by kernel_rfl) (by kernel_rfl) g (fun i hi => lit_word (hg i)))
  have e : r = q := by
    rw [Bool.eq_iff_iff, hiff, hq]
    simp [List.range_succ]
  subst e
  exact hr
end
section
open Go Go.RowKit

def andn (a b : Nat) : Nat := (BitVec.ofInt 64 (a : Int) &&& ~~~ BitVec.ofInt 64 (b : Int)).toNat
theorem andn_lt (a b : Nat) : andn a b < 18446744073709551616 := by
  have := (BitVec.ofInt 64 (a : Int) &&& ~~~ BitVec.ofInt 64 (b : Int)).isLt
  unfold andn; rw [p64]; exact this
theorem andn_bit (a b k : Nat) (hk : k < 64) : (andn a b).testBit k = (a.testBit k && !b.testBit k) := by
  unfold andn
  rw [BitVec.testBit_toNat, BitVec.getLsbD_and, BitVec.getLsbD_not, BitVec.ofInt_natCast, BitVec.ofInt_natCast, BitVec.getLsbD_ofNat, BitVec.getLsbD_ofNat]
  simp [hk]
theorem bits_andn (a b : Nat) : bits .andNot .u64 (a : Int) (b : Int) = ((andn a b : Nat) : Int) := by
  have hx := andn_lt a b
  show IntKind.u64.wrap ((BitVec.ofInt 64 (a : Int) &&& ~~~ BitVec.ofInt 64 (b : Int)).toNat : Int) = _
  change IntKind.u64.wrap ((andn a b : Nat) : Int) = _
  rw [IntKind.wrap_u64]
  omega
theorem andn_le (a b : Nat) (ha : a < 18446744073709551616) : andn a b ≤ a := by
  apply Nat.le_of_testBit
  intro i hi
  by_cases h : i < 64
  · rw [andn_bit a b i h] at hi
    simp only [Bool.and_eq_true] at hi
    exact hi.1
  · have hl := andn_lt a b
    rw [p64] at hl
    rw [Nat.testBit_lt_two_pow (Nat.lt_of_lt_of_le hl (Nat.pow_le_pow_right (by omega) (by omega)))] at hi
    cases hi
theorem less_nat {f g : Nat → Int} (hf : U64 f) (hg : U64 g) (i : Nat) : ∃ a b : Nat, f i = (a : Int) ∧ g i = (b : Int) ∧ a < 18446744073709551616 ∧ b < 18446744073709551616 ∧ joinC .andNot f g i = ((andn a b : Nat) : Int) := by
  obtain ⟨a, ea, ha⟩ := nat_of hf i
  obtain ⟨b, eb, hb⟩ := nat_of hg i
  exact ⟨a, b, ea, eb, ha, hb, by show bits .andNot .u64 (f i) (g i) = _; rw [ea, eb, bits_andn]⟩
theorem less_u64 {f g : Nat → Int} (hf : U64 f) (hg : U64 g) : U64 (joinC .andNot f g) := fun i => by
  obtain ⟨a, b, _, _, _, _, h⟩ := less_nat hf hg i
  have := andn_lt a b
  rw [h]; omega
theorem less_N100 {f g : Nat → Int} (hf : N100 f) (hg : U64 g) : N100 (joinC .andNot f g) := ⟨less_u64 hf.1 hg, by
  obtain ⟨a, b, ea, _, ha, _, h⟩ := less_nat hf.1 hg 1
  have h1 := andn_le a b ha
  have h2 := hf.2
  rw [h]; rw [ea] at h2; omega⟩
theorem hasC_less {f g : Nat → Int} (hf : U64 f) (hg : U64 g) {j : Nat} (hj : j < 100) : hasC (joinC .andNot f g) (j : Int) = (hasC f (j : Int) && !hasC g (j : Int)) := by
  obtain ⟨a, b, ea, eb, ha, hb, h⟩ := less_nat hf hg (j / 64)
  rw [hasC_bit hj h (andn_lt a b), hasC_bit hj ea ha, hasC_bit hj eb hb, andn_bit _ _ _ (by omega)]
/-- The words with the bits above 99 left away. -/
def cutC (g : Nat → Int) (i : Nat) : Int := if i = 0 then g 0 else bits .and .u64 (g 1) 68719476735
theorem opC_cut (op : BinOp) (f g : Nat → Int) : opC op f g = cutC (joinC op f g) := rfl
theorem cutC_N100 {g : Nat → Int} (hg : U64 g) : N100 (cutC g) := by
  obtain ⟨b, eb, hb⟩ := nat_of hg 1
  have e : ∀ i, i ≠ 0 → cutC g i = ((b % 68719476736 : Nat) : Int) := fun i hi => by
    unfold cutC; rw [if_neg hi, eb, mask_lt b hb]
  refine ⟨fun i => ?_, by rw [e 1 (by omega)]; omega⟩
  by_cases hi : i = 0
  · subst hi; exact hg 0
  · rw [e i hi]; omega
theorem hasC_cut {g : Nat → Int} (hg : U64 g) {j : Nat} (hj : j < 100) : hasC (cutC g) (j : Int) = hasC g (j : Int) := by
  by_cases h : j < 64
  · obtain ⟨a, ea, ha⟩ := nat_of hg 0
    rw [hasC_bit (a := a) hj (by rw [Nat.div_eq_of_lt h]; exact ea) ha, hasC_bit (a := a) hj (by rw [Nat.div_eq_of_lt h]; exact ea) ha]
  · obtain ⟨b, eb, hb⟩ := nat_of hg 1
    have e1 : j / 64 = 1 := by omega
    have e2 : cutC g 1 = ((b % 68719476736 : Nat) : Int) := by unfold cutC; rw [if_neg (by omega), eb, mask_lt b hb]
    rw [hasC_bit (a := b % 68719476736) hj (by rw [e1]; exact e2) (by omega), hasC_bit (a := b) hj (by rw [e1]; exact eb) hb, p36, Nat.testBit_mod_two_pow]
    simp; omega
theorem hlist_congr {f g : Nat → Int} : ∀ n, n ≤ 100 → (∀ j : Nat, j < 100 → hasC f (j : Int) = hasC g (j : Int)) → hlist f n = hlist g n
  | 0, _, _ => rfl
  | n + 1, hn, h => by
    have ih := hlist_congr n (by omega) h
    have hj := h n (by omega)
    cases hc : hasC g (n : Int) with
    | true => rw [hlist_hit hc, hlist_hit (by rw [hj]; exact hc), ih]
    | false => rw [hlist_miss hc, hlist_miss (by rw [hj]; exact hc), ih]
theorem hlist_nil {g : Nat → Int} : ∀ {n}, hlist g n = [] → ∀ j : Nat, j < n → hasC g (j : Int) = false
  | 0, _, j, hj => by omega
  | n + 1, h, j, hj => by
    cases hc : hasC g (n : Int) with
    | true => rw [hlist_hit hc] at h; simp at h
    | false =>
      rw [hlist_miss hc] at h
      by_cases e : j = n
      · subst e; exact hc
      · exact hlist_nil h j (by omega)
theorem hlist_empty {g : Nat → Int} : ∀ {n}, (∀ j : Nat, j < n → hasC g (j : Int) = false) → hlist g n = []
  | 0, _ => rfl
  | n + 1, h => by rw [hlist_miss (h n (by omega)), hlist_empty (fun j hj => h j (by omega))]
/-- A set with no number: its words, its list. -/
theorem none_iff {g : Nat → Int} (hg : N100 g) : (g 0 = 0 ∧ g 1 = 0) ↔ hlist g 100 = [] := by
  constructor
  · intro h
    exact hlist_empty (fun j hj => by
      have h2 : hasC g (j : Int) = hasC (fun _ => 0) (j : Int) := by unfold hasC; rw [h.1, h.2]
      rw [h2, hasC_zero j hj])
  · exact fun h => word_zero hg (hlist_nil h)
/-- Two words of a set that comes in. -/
theorem u64_of (g : Nat → Int) (h : ∀ i, i < 2 → (Lit.int .u64 (g i)).wf = true) : ∃ g', U64 g' ∧ acells .u64 2 g = acells .u64 2 g' := by
  refine ⟨fun i => if i < 2 then g i else 0, fun i => ?_, acells_congr (fun i hi => by rw [if_pos hi])⟩
  show 0 ≤ (if i < 2 then g i else 0) ∧ (if i < 2 then g i else 0) < 18446744073709551616
  by_cases hi : i < 2
  · rw [if_pos hi]
    have e1 : IntKind.u64.min = 0 := by decide
    have e2 : IntKind.u64.max = 18446744073709551615 := by decide
    have := h i hi
    simp [Lit.wf, e1, e2] at this
    omega
  · rw [if_neg hi]; omega
theorem wf_of_u64 {g : Nat → Int} (h : U64 g) : ∀ i, i < 2 → (Lit.int .u64 (g i)).wf = true := fun i _ => lit_word (h i)
end
section
open Go Go.RowKit Go.Shelf
attribute [local go_sem] Oper.semAt_some

def soilB (f : Fd) (k : Nat) : Bool := isCell f k && f.K k == 0
def soilN (f : Fd) (i : Nat) : Int := if soilB f i = true then 1 else 0
def lookN (f : Fd) (c : Nat → Int) (i : Nat) : Int := if (soilB f i && hasC c (i : Int)) = true then 1 else 0
def lookL (f g : Fd) (c : Nat → Int) (i : Nat) : Int := if (soilB f i && hasC c (i : Int)) = true then lossN f g i else 0
def guessQ (l n m : Int) : Int := wrap64 ((wrap64 (l * n)).tdiv m)
def guessVal (f g : Fd) (c : Nat → Int) : Int := if pairCode f g = 0 then (if totTo (lookN f c) 100 = 0 then 0 else guessQ (totTo (lookL f g c) 100) (totTo (soilN f) 100) (totTo (lookN f c) 100)) else 0
def guessCode (f g : Fd) (c : Nat → Int) : Int := if pairCode f g = 0 then (if totTo (lookN f c) 100 = 0 then 6 else 0) else pairCode f g
theorem guess_none {f g : Fd} {c : Nat → Int} (h0 : pairCode f g = 0) (h : totTo (lookN f c) 100 = 0) : guessVal f g c = 0 ∧ guessCode f g c = 6 := by
  unfold guessVal guessCode; rw [if_pos h0, if_pos h0, if_pos h, if_pos h]; exact ⟨rfl, rfl⟩
theorem guess_some {f g : Fd} {c : Nat → Int} (h0 : pairCode f g = 0) (h : totTo (lookN f c) 100 ≠ 0) : guessVal f g c = guessQ (totTo (lookL f g c) 100) (totTo (soilN f) 100) (totTo (lookN f c) 100) ∧ guessCode f g c = 0 := by
  unfold guessVal guessCode; rw [if_pos h0, if_pos h0, if_neg h, if_neg h]; exact ⟨rfl, rfl⟩
theorem guess_bad {f g : Fd} {c : Nat → Int} (h0 : pairCode f g ≠ 0) : guessVal f g c = 0 ∧ guessCode f g c = pairCode f g := by
  unfold guessVal guessCode; rw [if_neg h0, if_neg h0]; exact ⟨rfl, rfl⟩
theorem soilN_in (f : Fd) (i : Nat) : 0 ≤ soilN f i ∧ soilN f i ≤ 1 := by unfold soilN; split <;> omega
theorem lookN_in (f : Fd) (c : Nat → Int) (i : Nat) : 0 ≤ lookN f c i ∧ lookN f c i ≤ 1 := by unfold lookN; split <;> omega
theorem lookL_in {f g : Fd} {c : Nat → Int} (h1 : okF f = true) (h2 : okF g = true) {i : Nat} (hi : i < 100) : -1000 ≤ lookL f g c i ∧ lookL f g c i ≤ 1000 := by
  have := lossN_in h1 h2 hi; unfold lookL; split <;> omega
theorem l06Soil_any (f : Fd) (hf : f.Wf) (k : Nat) (hk : k < 100) (b : Nat) (w : World) (B : Blk w b (fcells f) 30) :
    Calls Tryd.prog 54 #[.pointer (some ⟨b, 0, none⟩), .int .i64 k] w fun e w' => e = .returned (.bool (soilB f k)) ∧ w = w' := by
  unfold soilB
  have cK := B.cell (fcells_K f k hk)
  have hk1 : (k : Int) < 100 := by omega
  obtain ⟨hb1, hb2⟩ := hf.K k hk
  cases hc : isCell f k with
  | false =>
    rw [Bool.false_and]
    go_enter Tryd.func54, Tryd.ntmps54
    go_wp2_with (go_at_call 72; refine (l01Is_any f k _ _ hf.W hf.H B).mono ?_; rintro e w' ⟨rfl, rfl⟩; rw [hc])
    go_ret
    exact ⟨rfl, rfl⟩
  | true =>
    rw [Bool.true_and]
    go_enter Tryd.func54, Tryd.ntmps54
    go_wp2_with (go_at_call 72; refine (l01Is_any f k _ _ hf.W hf.H B).mono ?_; rintro e w' ⟨rfl, rfl⟩; rw [hc])
    go_ret
    exact ⟨rfl, rfl⟩
set_option maxRecDepth 100000 in
set_option maxHeartbeats 8000000 in
theorem specGuessLoss (f g : Fd) (hf : f.Wf) (hg : g.Wf) (c : Nat → Int) (w : World) : Calls Tryd.prog 27 #[.agg (fcells f), .agg (fcells g), .agg (acells .u64 2 c)] w fun e w' => e = .returned (.tuple #[.int .i64 (guessVal f g c), .int .i64 (guessCode f g c)]) ∧ Below w.heap.size w w' := by
  by_cases h0 : pairCode f g = 0
  · have hp := Lib.hid h0
    obtain ⟨h1, h2, _, _⟩ := pairCode_fine h0
    have H1 := Lib.hid h1
    have H2 := Lib.hid h2
    have HF := Lib.hid hf
    clear h0 h1 h2
    go_enter Tryd.func27, Tryd.ntmps27
    go_upto_region 1 with (fail)
    obtain ⟨W, hW, M⟩ := open3 w (fcells f) 30 (fcells g) 30 (acells .u64 2 c) 38
    rw [hW]; clear hW
    have hz : Hid (Tryd.zeroCells25.size = 100) := Lib.hid (by rw [zeroS, acells_size])
    go_upto_region 5 with (first
      | (go_at_call 32; refine (l06Pair_any f g hf hg _ _ _ (M.at 0 rfl) (M.at 1 rfl)).mono ?_; rintro e W2 ⟨rfl, hb⟩; rw [hp.out]; have M2 := M.call hb; clear hb)
      | (go_at_call 33; refine (l06Loss_any f g H1.out H2.out _ _ _ (M2.at 0 rfl) (M2.at 1 rfl)).mono ?_; rintro e W3 ⟨rfl, hb⟩; have M3 := M2.call hb; clear hb; have M4 := M3.alloc Tryd.zeroCells25 25)
      | (refine wpList_store_row rfl 25 _ _ rfl W3.heap.size (acells .i16 100 (lossN f g)) rfl rfl 25 _ (M4.at 3 rfl) (by rw [acells_size]; exact sizeS) (by rw [acells_size, hz.out]) (acells_one _ _ _) ?_))
    have M5 := M4.row 3 rfl (acells .i16 100 (lossN f g))
    obtain ⟨b9, hb9⟩ : ∃ b9, b9 = W3.heap.size := ⟨_, rfl⟩
    rw [← hb9] at M5 ⊢
    generalize World.setRow _ _ _ = W5 at M5 ⊢
    clear M4 M3 M2 M hb9
    have M6 := Lib.hid M5
    clear M5
    go_wp2_with fail
    go_loop [10, 11, 12, 13] (fun a b s i => ∃ k : Nat, k ≤ 100 ∧ i = .int .i64 k ∧ a = .int .i64 (totTo (soilN f) k) ∧ b = .int .i64 (totTo (lookN f c) k) ∧ s = .int .i64 (totTo (lookL f g c) k)) (fun _ _ _ i => 100 - (intOf i).toNat)
    case atStart => exact ⟨0, by omega, rfl, rfl, rfl, rfl⟩
    case round =>
      obtain ⟨k, hk', rfl, rfl, rfl, rfl⟩ := hrel
      by_cases hlt : k < 100
      · have c3 := (M6.out.at 3 rfl).cell (acells_get _ _ _ k hlt)
        obtain ⟨t1, t2⟩ := totTo_in (g := soilN f) (a := 0) (m := 1) (n := k) (by omega) (by omega) (fun i hi => soilN_in f i)
        obtain ⟨t3, t4⟩ := totTo_in (g := lookN f c) (a := 0) (m := 1) (n := k) (by omega) (by omega) (fun i hi => lookN_in f c i)
        obtain ⟨t5, t6⟩ := totTo_in (g := lookL f g c) (a := -1000) (m := 1000) (n := k) (by omega) (by omega) (fun i hi => lookL_in H1.out H2.out (by omega))
        obtain ⟨l1, l2⟩ := lossN_in H1.out H2.out hlt
        obtain ⟨v, hv⟩ : ∃ v, v = lossN f g k := ⟨_, rfl⟩
        rw [← hv] at l1 l2 c3
        have HV := Lib.hid hv
        clear hv
        have hk1 : (k : Int) < 100 := by omega
        cases hs : soilB f k with
        | false =>
          have e1 := Lib.hid (show totTo (soilN f) (k + 1) = totTo (soilN f) k by rw [totTo_succ]; unfold soilN; rw [if_neg (by rw [hs]; decide)]; omega)
          have e2 := Lib.hid (show totTo (lookN f c) (k + 1) = totTo (lookN f c) k by rw [totTo_succ]; unfold lookN; rw [if_neg (by rw [hs, Bool.false_and]; decide)]; omega)
          have e3 := Lib.hid (show totTo (lookL f g c) (k + 1) = totTo (lookL f g c) k by rw [totTo_succ]; unfold lookL; rw [if_neg (by rw [hs, Bool.false_and]; decide)]; omega)
          go_wp2_with (go_at_call 54; refine (l06Soil_any f HF.out k hlt _ _ (M6.out.at 0 rfl)).mono ?_; rintro e w' ⟨rfl, rfl⟩; rw [hs])
          go_round
          case rel => exact ⟨k + 1, by omega, by go_num, by rw [e1.out], by rw [e2.out], by rw [e3.out]⟩
          case measure => simp [intOf]; omega
        | true =>
          have e1 := Lib.hid (show totTo (soilN f) (k + 1) = totTo (soilN f) k + 1 by rw [totTo_succ]; unfold soilN; rw [if_pos hs])
          cases hc : hasC c (k : Int) with
          | true =>
            have e2 := Lib.hid (show totTo (lookN f c) (k + 1) = totTo (lookN f c) k + 1 by rw [totTo_succ]; unfold lookN; rw [if_pos (by rw [hs, hc]; rfl)])
            have e3 := Lib.hid (show totTo (lookL f g c) (k + 1) = totTo (lookL f g c) k + v by rw [totTo_succ, HV.out]; unfold lookL; rw [if_pos (by rw [hs, hc]; rfl)])
            go_wp2_with (first
              | (go_at_call 54; refine (l06Soil_any f HF.out k hlt _ _ (M6.out.at 0 rfl)).mono ?_; rintro e w' ⟨rfl, rfl⟩; rw [hs])
              | (go_at_call 55; refine (l01Has_any c (k : Int) _ _ (M6.out.at 2 rfl)).mono ?_; rintro e w' ⟨rfl, rfl⟩; rw [hc]))
            go_round
            case rel => exact ⟨k + 1, by omega, by go_num, by rw [e1.out], by rw [e2.out], by rw [e3.out]⟩
            case measure => simp [intOf]; omega
          | false =>
            have e2 := Lib.hid (show totTo (lookN f c) (k + 1) = totTo (lookN f c) k by rw [totTo_succ]; unfold lookN; rw [if_neg (by rw [hs, hc]; decide)]; omega)
            have e3 := Lib.hid (show totTo (lookL f g c) (k + 1) = totTo (lookL f g c) k by rw [totTo_succ]; unfold lookL; rw [if_neg (by rw [hs, hc]; decide)]; omega)
            go_wp2_with (first
              | (go_at_call 54; refine (l06Soil_any f HF.out k hlt _ _ (M6.out.at 0 rfl)).mono ?_; rintro e w' ⟨rfl, rfl⟩; rw [hs])
              | (go_at_call 55; refine (l01Has_any c (k : Int) _ _ (M6.out.at 2 rfl)).mono ?_; rintro e w' ⟨rfl, rfl⟩; rw [hc]))
            go_round
            case rel => exact ⟨k + 1, by omega, by go_num, by rw [e1.out], by rw [e2.out], by rw [e3.out]⟩
            case measure => simp [intOf]; omega
      · obtain rfl : k = 100 := by omega
        obtain ⟨r1, hr1⟩ : ∃ x, totTo (soilN f) 100 = x := ⟨_, rfl⟩
        obtain ⟨r2, hr2⟩ : ∃ x, totTo (lookN f c) 100 = x := ⟨_, rfl⟩
        obtain ⟨r3, hr3⟩ : ∃ x, totTo (lookL f g c) 100 = x := ⟨_, rfl⟩
        rw [hr1, hr2, hr3]
        have HR1 := Lib.hid hr1
        have HR2 := Lib.hid hr2
        have HR3 := Lib.hid hr3
        clear hr1 hr2 hr3
        by_cases hne : r2 = 0
        · have hne' := Lib.hid hne
          go_wp2_with fail
          go_ret2
          exact ⟨by rw [(guess_none hp.out (HR2.out.trans hne'.out)).1, (guess_none hp.out (HR2.out.trans hne'.out)).2]; rfl, M6.out.below⟩
        · have hne' := Lib.hid hne
          go_wp2_with fail
          go_ret2
          exact ⟨by rw [(guess_some hp.out (by rw [HR2.out]; exact hne'.out)).1, (guess_some hp.out (by rw [HR2.out]; exact hne'.out)).2, HR1.out, HR2.out, HR3.out]; rfl, M6.out.below⟩
  · rw [(guess_bad h0).1, (guess_bad h0).2]
    have hne2 : (pairCode f g != 0) = true := by simpa using h0
    go_enter Tryd.func27, Tryd.ntmps27
    go_upto_region 1 with (fail)
    obtain ⟨W, hW, M⟩ := open3 w (fcells f) 30 (fcells g) 30 (acells .u64 2 c) 38
    rw [hW]; clear hW
    go_wp2_with (go_at_call 32; refine (l06Pair_any f g hf hg _ _ _ (M.at 0 rfl) (M.at 1 rfl)).mono ?_; rintro e W2 ⟨rfl, hb⟩; have M2 := M.call hb; clear hb)
    go_ret2
    exact ⟨rfl, M2.below⟩

theorem soilSet (f : Fd) : ∀ n, n ≤ 100 → N100 (kindSet f 0 n) ∧ ∀ j : Nat, j < 100 → hasC (kindSet f 0 n) (j : Int) = (decide (j < n) && soilB f j)
  | 0, _ => ⟨zero_N100, fun j hj => by rw [show kindSet f 0 0 = fun _ => 0 from rfl, hasC_zero j hj]; simp⟩
  | n + 1, hn => by
    obtain ⟨ih1, ih2⟩ := soilSet f n (by omega)
    cases hs : soilB f n with
    | true =>
      have hs' := hs
      unfold soilB at hs'
      simp only [Bool.and_eq_true] at hs'
      rw [kindSet_yes hs'.1 hs'.2]
      refine ⟨putC_N100 ih1 (by omega), fun j hj => ?_⟩
      rw [hasC_put ih1.1 hj, ih2 j hj]
      by_cases hjn : j = n
      · subst hjn; simp [hs]
      · have : decide (j < n + 1) = decide (j < n) := by rw [decide_eq_decide]; omega
        rw [this]; simp [hjn]
    | false =>
      rw [kindSet_no hs]
      refine ⟨ih1, fun j hj => ?_⟩
      rw [ih2 j hj]
      by_cases hjn : j = n
      · subst hjn; simp [hs]
      · have : decide (j < n + 1) = decide (j < n) := by rw [decide_eq_decide]; omega
        rw [this]
theorem count_tot (s : Nat → Int) : ∀ n, ((hlist s n).length : Int) = totTo (fun i => if hasC s (i : Int) = true then 1 else 0) n
  | 0 => rfl
  | n + 1 => by
    rw [totTo_succ, ← count_tot s n, hlist_succ]
    split <;> simp
theorem soil_count (f : Fd) : ((hlist (kindSet f 0 100) 100).length : Int) = totTo (soilN f) 100 := by
  rw [count_tot]
  refine totTo_congr (fun i hi => ?_)
  rw [(soilSet f 100 (by omega)).2 i hi]
  unfold soilN
  simp [hi]
theorem look_has (f : Fd) {c : Nat → Int} (hc : U64 c) {j : Nat} (hj : j < 100) : hasC (joinC .and (kindSet f 0 100) c) (j : Int) = (soilB f j && hasC c (j : Int)) := by
  obtain ⟨h1, h2⟩ := soilSet f 100 (by omega)
  rw [hasC_and h1.1 hc hj, h2 j hj]
  simp [hj]
theorem look_count (f : Fd) {c : Nat → Int} (hc : U64 c) : ((hlist (joinC .and (kindSet f 0 100) c) 100).length : Int) = totTo (lookN f c) 100 := by
  rw [count_tot]
  refine totTo_congr (fun i hi => ?_)
  rw [look_has f hc hi]
  rfl
theorem look_loss (f g : Fd) {c : Nat → Int} (hc : U64 c) : totTo (loN f g (joinC .and (kindSet f 0 100) c)) 100 = totTo (lookL f g c) 100 := by
  refine totTo_congr (fun i hi => ?_)
  unfold loN lookL
  rw [look_has f hc hi]
theorem look_N100 (f : Fd) {c : Nat → Int} (hc : U64 c) : N100 (joinC .and (kindSet f 0 100) c) := and_N100 (soilSet f 100 (by omega)).1 hc
theorem look_none (f : Fd) {c : Nat → Int} (hc : U64 c) : decide (totTo (lookN f c) 100 = 0) = true ↔ (joinC .and (kindSet f 0 100) c 0 = (fun _ : Nat => (0 : Int)) 0 ∧ joinC .and (kindSet f 0 100) c 1 = (fun _ : Nat => (0 : Int)) 1) := by
  rw [decide_eq_true_iff]
  show _ ↔ (joinC .and (kindSet f 0 100) c 0 = 0 ∧ joinC .and (kindSet f 0 100) c 1 = 0)
  rw [none_iff (look_N100 f hc), ← look_count f hc]
  constructor
  · intro h; exact List.length_eq_zero_iff.1 (by omega)
  · intro h; rw [h]; rfl
end
end Go.Proofs.YtpiejcibjphffaaDoor
