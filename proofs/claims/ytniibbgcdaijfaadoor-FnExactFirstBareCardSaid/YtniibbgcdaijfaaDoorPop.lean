/-
  math/bits.OnesCount64, as its source has it by masks: the number of set bits.
-/
import Derived.WalkKit
import Derived.Laws.Bits64b
import Derived.Deep.Cut
import Derived.Sort.CutIn
import Derived.Lib.Hide
import Derived.Laws.BitsLemmas
import Derived.Test.YtniibbgcdaijfaaDoorBase
namespace Go.Proofs.YtniibbgcdaijfaaDoor
open Go Go.RowKit

/-- The byte m, n times. -/
def mm (m : Nat) : Nat → Nat
  | 0 => 0
  | n + 1 => 256 * mm m n + m
theorem and_step (h b M m : Nat) (hb : b < 256) (hm : m < 256) : (256 * h + b) &&& (256 * M + m) = 256 * (h &&& M) + (b &&& m) := by
  have e1 := Nat.and_div_two_pow (a := 256 * h + b) (b := 256 * M + m) (n := 8)
  have e2 := Nat.and_mod_two_pow (a := 256 * h + b) (b := 256 * M + m) (n := 8)
  rw [show (256 * h + b) / 2 ^ 8 = h by omega, show (256 * M + m) / 2 ^ 8 = M by omega] at e1
  rw [show (256 * h + b) % 2 ^ 8 = b by omega, show (256 * M + m) % 2 ^ 8 = m by omega] at e2
  generalize (256 * h + b) &&& (256 * M + m) = z at *
  generalize h &&& M = u at *
  generalize b &&& m = v at *
  omega
def sA (n x : Nat) : Nat := (x / 2 &&& mm 85 n) + (x &&& mm 85 n)
def sB (n x : Nat) : Nat := (x / 4 &&& mm 51 n) + (x &&& mm 51 n)
def sC (n x : Nat) : Nat := (x / 16 + x) &&& mm 15 n
def a8 (b : Nat) : Nat := (b / 2 &&& 85) + (b &&& 85)
def b8 (b : Nat) : Nat := (b / 4 &&& 51) + (b &&& 51)
/-- How many of the n lowest bits are set. -/
def ones : Nat → Nat → Nat
  | 0, _ => 0
  | n + 1, x => x % 2 + ones n (x / 2)
theorem m85 : ∀ e : Fin 2, ∀ c : Fin 128, (128 * e.val + c.val) &&& 85 = c.val &&& 85 := by decide +kernel
theorem m51 : ∀ e : Fin 4, ∀ c : Fin 64, (64 * e.val + c.val) &&& 51 = c.val &&& 51 := by decide +kernel
theorem a8_lt : ∀ b : Fin 256, a8 b.val < 256 := by decide +kernel
theorem b8_le : ∀ b : Fin 256, b8 (a8 b.val) ≤ 68 ∧ b8 (a8 b.val) % 16 ≤ 4 := by decide +kernel
theorem m15 : ∀ e : Fin 5, ∀ b : Fin 256, (16 * e.val + b8 (a8 b.val) / 16 + b8 (a8 b.val)) &&& 15 = ones 8 b.val := by decide +kernel
theorem ones8_le : ∀ b : Fin 256, ones 8 b.val ≤ 8 := by decide +kernel
theorem sA_step (n h b : Nat) (hb : b < 256) : sA (n + 1) (256 * h + b) = 256 * sA n h + a8 b := by
  have e := m85 ⟨h % 2, by omega⟩ ⟨b / 2, by omega⟩
  simp only at e
  unfold sA a8
  rw [show mm 85 (n + 1) = 256 * mm 85 n + 85 from rfl, show (256 * h + b) / 2 = 256 * (h / 2) + (128 * (h % 2) + b / 2) by omega, and_step _ _ _ _ (by omega) (by omega), and_step _ _ _ _ hb (by omega), e]
  omega
theorem sB_step (n h b : Nat) (hb : b < 256) : sB (n + 1) (256 * h + b) = 256 * sB n h + b8 b := by
  have e := m51 ⟨h % 4, by omega⟩ ⟨b / 4, by omega⟩
  simp only at e
  unfold sB b8
  rw [show mm 51 (n + 1) = 256 * mm 51 n + 51 from rfl, show (256 * h + b) / 4 = 256 * (h / 4) + (64 * (h % 4) + b / 4) by omega, and_step _ _ _ _ (by omega) (by omega), and_step _ _ _ _ hb (by omega), e]
  omega
theorem swar (n : Nat) : ∀ x, x < 256 ^ n → sA n x < 256 ^ n ∧ sB n (sA n x) < 256 ^ n ∧ sB n (sA n x) % 16 ≤ 4 ∧ sB n (sA n x) / 16 + sB n (sA n x) < 256 ^ n := by
  induction n with
  | zero => intro x hx; simp [sA, sB, mm]
  | succ n ih =>
    intro x hx
    have hx' : x / 256 < 256 ^ n := by rw [Nat.pow_succ] at hx; omega
    obtain ⟨i1, i2, i3, i4⟩ := ih (x / 256) hx'
    have ex : x = 256 * (x / 256) + x % 256 := by omega
    have e1 : sA (n + 1) x = 256 * sA n (x / 256) + a8 (x % 256) := by
      conv => lhs; rw [ex]
      exact sA_step n _ _ (by omega)
    have l1 := a8_lt ⟨x % 256, by omega⟩
    simp only at l1
    have e2 : sB (n + 1) (sA (n + 1) x) = 256 * sB n (sA n (x / 256)) + b8 (a8 (x % 256)) := by rw [e1]; exact sB_step n _ _ l1
    have l2 := b8_le ⟨x % 256, by omega⟩
    simp only at l2
    rw [e2, e1, Nat.pow_succ]
    generalize sB n (sA n (x / 256)) = Y at *
    generalize b8 (a8 (x % 256)) = y at *
    generalize 256 ^ n = P at *
    omega
theorem sC_step (n x : Nat) (hx : x < 256 ^ (n + 1)) : sC (n + 1) (sB (n + 1) (sA (n + 1) x)) = 256 * sC n (sB n (sA n (x / 256))) + ones 8 (x % 256) := by
  have hx' : x / 256 < 256 ^ n := by rw [Nat.pow_succ] at hx; omega
  obtain ⟨i1, i2, i3, i4⟩ := swar n (x / 256) hx'
  have ex : x = 256 * (x / 256) + x % 256 := by omega
  have e1 : sA (n + 1) x = 256 * sA n (x / 256) + a8 (x % 256) := by
    conv => lhs; rw [ex]
    exact sA_step n _ _ (by omega)
  have l1 := a8_lt ⟨x % 256, by omega⟩
  simp only at l1
  have e2 : sB (n + 1) (sA (n + 1) x) = 256 * sB n (sA n (x / 256)) + b8 (a8 (x % 256)) := by rw [e1]; exact sB_step n _ _ l1
  have l2 := b8_le ⟨x % 256, by omega⟩
  simp only at l2
  rw [e2]
  have e3 := m15 ⟨sB n (sA n (x / 256)) % 16, by omega⟩ ⟨x % 256, by omega⟩
  simp only at e3
  unfold sC
  generalize sB n (sA n (x / 256)) = Y at *
  rw [show (256 * Y + b8 (a8 (x % 256))) / 16 + (256 * Y + b8 (a8 (x % 256))) = 256 * (Y / 16 + Y) + (16 * (Y % 16) + b8 (a8 (x % 256)) / 16 + b8 (a8 (x % 256))) by omega]
  rw [show mm 15 (n + 1) = 256 * mm 15 n + 15 from rfl, and_step _ _ _ _ (by omega) (by omega), e3]
theorem ones_add : ∀ (k n x : Nat), ones (k + n) x = ones k x + ones n (x / 2 ^ k)
  | 0, n, x => by simp [ones]
  | k + 1, n, x => by
    rw [show k + 1 + n = (k + n) + 1 by omega]
    simp only [ones]
    rw [ones_add k n (x / 2), Nat.div_div_eq_div_mul, Nat.pow_succ, Nat.mul_comm 2 (2 ^ k)]
    omega
theorem ones_mod : ∀ (k x : Nat), ones k (x % 2 ^ k) = ones k x
  | 0, x => rfl
  | k + 1, x => by
    simp only [ones]
    have h1 : x % 2 ^ (k + 1) % 2 = x % 2 := by rw [Nat.pow_succ, Nat.mul_comm]; exact Nat.mod_mul_right_mod x 2 _
    have h2 : x % 2 ^ (k + 1) / 2 = x / 2 % 2 ^ k := by rw [Nat.pow_succ, Nat.mul_comm]; exact Nat.mod_mul_right_div_self x 2 _
    rw [h1, h2, ones_mod k]
theorem add_step (a b X Y : Nat) : (a + 256 * X) + (b + 256 * Y) = (a + b) + 256 * (X + Y) := by omega
theorem add_last (a X b : Nat) : (a + 256 * X) + b = (a + b) + 256 * X := by omega
theorem byte_off (p e : Nat) (hp : p < 256) : (p + 256 * e) / 256 = e := by omega
/-- What the last three steps make of the bytes' counts. -/
theorem fold_a (p0 p1 p2 p3 p4 p5 p6 p7 c : Nat) (h0 : p0 < 256) (hc : c = p0 + 256 * (p1 + 256 * (p2 + 256 * (p3 + 256 * (p4 + 256 * (p5 + 256 * (p6 + 256 * p7))))))) :
    c + c / 256 = (p0 + p1) + 256 * ((p1 + p2) + 256 * ((p2 + p3) + 256 * ((p3 + p4) + 256 * ((p4 + p5) + 256 * ((p5 + p6) + 256 * ((p6 + p7) + 256 * p7)))))) := by
  have e : c / 256 = p1 + 256 * (p2 + 256 * (p3 + 256 * (p4 + 256 * (p5 + 256 * (p6 + 256 * p7))))) := by rw [hc]; exact byte_off _ _ h0
  rw [e, hc, add_step, add_step, add_step, add_step, add_step, add_step, add_last]
theorem fold_b (p0 p1 p2 p3 p4 p5 p6 p7 c : Nat) (h0 : p0 < 256) (h1 : p1 < 256) (hc : c = p0 + 256 * (p1 + 256 * (p2 + 256 * (p3 + 256 * (p4 + 256 * (p5 + 256 * (p6 + 256 * p7))))))) :
    c + c / 65536 = (p0 + p2) + 256 * ((p1 + p3) + 256 * ((p2 + p4) + 256 * ((p3 + p5) + 256 * ((p4 + p6) + 256 * ((p5 + p7) + 256 * (p6 + 256 * p7)))))) := by
  have e : c / 65536 = p2 + 256 * (p3 + 256 * (p4 + 256 * (p5 + 256 * (p6 + 256 * p7)))) := by
    rw [hc, show (65536 : Nat) = 256 * 256 from rfl, ← Nat.div_div_eq_div_mul, byte_off _ _ h0, byte_off _ _ h1]
  rw [e, hc, add_step, add_step, add_step, add_step, add_step, add_last]
theorem fold_c (p0 p1 p2 p3 p4 p5 p6 p7 c : Nat) (h0 : p0 < 256) (h1 : p1 < 256) (h2 : p2 < 256) (h3 : p3 < 256) (hc : c = p0 + 256 * (p1 + 256 * (p2 + 256 * (p3 + 256 * (p4 + 256 * (p5 + 256 * (p6 + 256 * p7))))))) :
    c + c / 4294967296 = (p0 + p4) + 256 * ((p1 + p5) + 256 * ((p2 + p6) + 256 * ((p3 + p7) + 256 * (p4 + 256 * (p5 + 256 * (p6 + 256 * p7)))))) := by
  have e : c / 4294967296 = p4 + 256 * (p5 + 256 * (p6 + 256 * p7)) := by
    rw [hc, show (4294967296 : Nat) = 256 * 256 * 256 * 256 from rfl, ← Nat.div_div_eq_div_mul, ← Nat.div_div_eq_div_mul, ← Nat.div_div_eq_div_mul, byte_off _ _ h0, byte_off _ _ h1, byte_off _ _ h2, byte_off _ _ h3]
  rw [e, hc, add_step, add_step, add_step, add_last]
theorem fold_d (s e : Nat) (hs : s ≤ 64) : (s + 256 * e) % 128 = s := by omega
theorem bound1 (p e n : Nat) (hp : p < 256) (he : e < n) : p + 256 * e < 256 * n := by omega
theorem bound8 (p0 p1 p2 p3 p4 p5 p6 p7 : Nat) (h0 : p0 < 256) (h1 : p1 < 256) (h2 : p2 < 256) (h3 : p3 < 256) (h4 : p4 < 256) (h5 : p5 < 256) (h6 : p6 < 256) (h7 : p7 < 128) :
    p0 + 256 * (p1 + 256 * (p2 + 256 * (p3 + 256 * (p4 + 256 * (p5 + 256 * (p6 + 256 * p7)))))) < 9223372036854775808 := by
  exact bound1 _ _ 36028797018963968 h0 (bound1 _ _ 140737488355328 h1 (bound1 _ _ 549755813888 h2 (bound1 _ _ 2147483648 h3 (bound1 _ _ 8388608 h4 (bound1 _ _ 32768 h5 (bound1 _ _ 128 h6 h7))))))
theorem fold8 (p0 p1 p2 p3 p4 p5 p6 p7 c : Nat) (h0 : p0 ≤ 8) (h1 : p1 ≤ 8) (h2 : p2 ≤ 8) (h3 : p3 ≤ 8) (h4 : p4 ≤ 8) (h5 : p5 ≤ 8) (h6 : p6 ≤ 8) (h7 : p7 ≤ 8)
    (hc : c = p0 + 256 * (p1 + 256 * (p2 + 256 * (p3 + 256 * (p4 + 256 * (p5 + 256 * (p6 + 256 * p7))))))) :
    ∃ y1 y2 y3, y1 = c + c / 256 ∧ y2 = y1 + y1 / 65536 ∧ y3 = y2 + y2 / 4294967296 ∧ y3 < 9223372036854775808 ∧ y3 % 128 = p0 + p1 + p2 + p3 + p4 + p5 + p6 + p7 := by
  have f1 := fold_a p0 p1 p2 p3 p4 p5 p6 p7 c (by clear hc; omega) hc
  clear hc
  have f2 := fold_b _ _ _ _ _ _ _ _ _ (by clear f1; omega) (by clear f1; omega) f1
  clear f1
  have f3 := fold_c _ _ _ _ _ _ _ _ _ (by clear f2; omega) (by clear f2; omega) (by clear f2; omega) (by clear f2; omega) f2
  clear f2
  refine ⟨_, _, _, rfl, rfl, rfl, ?_, ?_⟩
  · rw [f3]; clear f3
    exact bound8 _ _ _ _ _ _ _ _ (by omega) (by omega) (by omega) (by omega) (by omega) (by omega) (by omega) (by omega)
  · rw [f3, fold_d _ _ (by clear f3; omega)]; clear f3; omega
/-- One byte. -/
theorem pop_byte (n m x : Nat) (hm : m = n + 1) (hx : x < 256 ^ m) : ∃ x' p, x' < 256 ^ n ∧ p ≤ 8 ∧ sC m (sB m (sA m x)) = p + 256 * sC n (sB n (sA n x')) ∧ ones (8 * m) x = p + ones (8 * n) x' := by
  subst hm
  refine ⟨x / 256, ones 8 (x % 256), by rw [Nat.pow_succ] at hx; omega, ones8_le ⟨x % 256, by omega⟩, by rw [sC_step n x hx, Nat.add_comm], ?_⟩
  rw [show 8 * (n + 1) = 8 + 8 * n by omega, ones_add 8 (8 * n) x, show (2 : Nat) ^ 8 = 256 from rfl]
  have := ones_mod 8 x
  rw [show (2 : Nat) ^ 8 = 256 from rfl] at this
  rw [this]
/-- The whole of it: 64 bits. -/
theorem pop64 (x : Nat) (hx : x < 256 ^ 8) : ∃ y1 y2 y3, y1 = sC 8 (sB 8 (sA 8 x)) + sC 8 (sB 8 (sA 8 x)) / 256 ∧ y2 = y1 + y1 / 65536 ∧ y3 = y2 + y2 / 4294967296 ∧ y3 < 9223372036854775808 ∧ y3 % 128 = ones (8 * 8) x := by
  obtain ⟨x1, p0, h1, q0, c0, o0⟩ := pop_byte 7 8 x rfl hx
  obtain ⟨x2, p1, h2, q1, c1, o1⟩ := pop_byte 6 7 x1 rfl h1
  obtain ⟨x3, p2, h3, q2, c2, o2⟩ := pop_byte 5 6 x2 rfl h2
  obtain ⟨x4, p3, h4, q3, c3, o3⟩ := pop_byte 4 5 x3 rfl h3
  obtain ⟨x5, p4, h5, q4, c4, o4⟩ := pop_byte 3 4 x4 rfl h4
  obtain ⟨x6, p5, h6, q5, c5, o5⟩ := pop_byte 2 3 x5 rfl h5
  obtain ⟨x7, p6, h7, q6, c6, o6⟩ := pop_byte 1 2 x6 rfl h6
  obtain ⟨x8, p7, h8, q7, c7, o7⟩ := pop_byte 0 1 x7 rfl h7
  have hz : sC 0 (sB 0 (sA 0 x8)) = 0 := by simp [sC, mm]
  have hz2 : ones (8 * 0) x8 = 0 := rfl
  rw [hz, Nat.mul_zero, Nat.add_zero] at c7
  rw [hz2, Nat.add_zero] at o7
  obtain ⟨y1, y2, y3, e1, e2, e3, e4, e5⟩ := fold8 p0 p1 p2 p3 p4 p5 p6 p7 _ q0 q1 q2 q3 q4 q5 q6 q7 rfl
  refine ⟨y1, y2, y3, ?_, e2, e3, e4, ?_⟩
  · rw [c0, c1, c2, c3, c4, c5, c6, c7]; exact e1
  · rw [o0, o1, o2, o3, o4, o5, o6, o7, e5]
    clear e1 e2 e3 e4 e5 c0 c1 c2 c3 c4 c5 c6 c7 o0 o1 o2 o3 o4 o5 o6 o7
    omega

theorem mm85 : mm 85 8 = 6148914691236517205 := by decide +kernel
theorem mm51 : mm 51 8 = 3689348814741910323 := by decide +kernel
theorem mm15 : mm 15 8 = 1085102592571150095 := by decide +kernel
theorem ipow8 : (256 : Nat) ^ 8 = 18446744073709551616 := by decide +kernel

theorem u64w (m : Nat) (h : m < 18446744073709551616) : IntKind.u64.wrap (m : Int) = m := by
  have e : (2 : Int) ^ IntKind.u64.bits = 18446744073709551616 := by decide
  have e2 : IntKind.u64.signed = false := rfl
  simp only [IntKind.wrap, e, e2, Bool.false_and, Bool.false_eq_true, if_false]
  omega
theorem stepA (n : Nat) (hn : n < 18446744073709551616) (hs : sA 8 n < 18446744073709551616) :
    IntKind.u64.wrap (bits .and .u64 ((n : Int) / 2) 6148914691236517205 + bits .and .u64 (n : Int) 6148914691236517205) = (sA 8 n : Int) := by
  have g1 := bits_and_u64_nat (n / 2) 6148914691236517205 (by omega) (by omega)
  have g2 := bits_and_u64_nat n 6148914691236517205 hn (by omega)
  rw [show ((n : Int) / 2) = ((n / 2 : Nat) : Int) by omega]
  simp only [Int.cast_ofNat_Int] at g1 g2
  rw [g1, g2, ← Int.natCast_add, u64w _ (by unfold sA at hs; rw [mm85] at hs; exact hs)]
  unfold sA; rw [mm85]
theorem stepB (n : Nat) (hn : n < 18446744073709551616) (hs : sB 8 n < 18446744073709551616) :
    IntKind.u64.wrap (bits .and .u64 ((n : Int) / 4) 3689348814741910323 + bits .and .u64 (n : Int) 3689348814741910323) = (sB 8 n : Int) := by
  have g1 := bits_and_u64_nat (n / 4) 3689348814741910323 (by omega) (by omega)
  have g2 := bits_and_u64_nat n 3689348814741910323 hn (by omega)
  rw [show ((n : Int) / 4) = ((n / 4 : Nat) : Int) by omega]
  simp only [Int.cast_ofNat_Int] at g1 g2
  rw [g1, g2, ← Int.natCast_add, u64w _ (by unfold sB at hs; rw [mm51] at hs; exact hs)]
  unfold sB; rw [mm51]
theorem stepC (n : Nat) (hs : n / 16 + n < 18446744073709551616) :
    bits .and .u64 (IntKind.u64.wrap ((n : Int) / 16 + (n : Int))) 1085102592571150095 = (sC 8 n : Int) := by
  have g1 := bits_and_u64_nat (n / 16 + n) 1085102592571150095 hs (by omega)
  rw [show ((n : Int) / 16 + (n : Int)) = ((n / 16 + n : Nat) : Int) by omega, u64w _ hs]
  simp only [Int.cast_ofNat_Int] at g1
  rw [g1]
  unfold sC; rw [mm15]
theorem stepD (y k z : Nat) (hz : z = y + y / k) (hl : z < 18446744073709551616) : IntKind.u64.wrap ((y : Int) + (y : Int) / (k : Int)) = (z : Int) := by
  rw [← Int.natCast_ediv, ← Int.natCast_add, ← hz, u64w _ hl]
theorem i64w (n : Int) (h1 : 0 ≤ n) (h2 : n < 2 ^ 63) : IntKind.i64.wrap n = n := by
  have e : (2 : Int) ^ IntKind.i64.bits = 18446744073709551616 := by decide
  have e2 : (2 : Int) ^ (IntKind.i64.bits - 1) = 9223372036854775808 := by decide
  have e3 : IntKind.i64.signed = true := rfl
  have e4 : (2 : Int) ^ 63 = 9223372036854775808 := by decide
  rw [e4] at h2
  have e5 : n % 18446744073709551616 = n := by omega
  simp only [IntKind.wrap, e, e2, e3, e5, Bool.true_and, decide_eq_true_eq]
  rw [if_neg (by omega)]
theorem stepE (y : Nat) (hy : y < 9223372036854775808) : bits .and .i64 (y : Int) 127 = ((y % 128 : Nat) : Int) := by
  have h := bits_mask .i64 63 (by decide) (fun n h1 h2 => i64w n h1 h2) 7 (by decide) (y : Int) (by omega) (by omega)
  have e : ((2 : Int) ^ 7 - 1) = 127 := by decide
  have e2 : ((2 : Int) ^ 7) = 128 := by decide
  rw [e, e2] at h
  rw [h]
  omega

set_option maxRecDepth 100000 in
theorem onesCount64 (n : Nat) (hn : n < 18446744073709551616) (w : World) : Calls Tryd.prog 62 #[.int .u64 n] w fun e w' => e = .returned (.int .i64 (ones 64 n)) ∧ w' = w := by
  have hn8 : n < 256 ^ 8 := by rw [ipow8]; exact hn
  obtain ⟨y1, y2, y3, e1, e2, e3, e4, e5⟩ := pop64 n hn8
  obtain ⟨s1, s2, s3, s4⟩ := swar 8 n hn8
  rw [ipow8] at s1 s2 s4
  have e5' : y3 % 128 = ones 64 n := e5
  have hA := Lib.hid (stepA n hn s1)
  have hB := Lib.hid (stepB _ s1 s2)
  have hC := Lib.hid (stepC _ s4)
  generalize sA 8 n = a at *
  generalize sB 8 a = b at *
  generalize sC 8 b = c at *
  have l3 : y2 ≤ y3 := by rw [e3]; exact Nat.le_add_right _ _
  have l2 : y1 ≤ y2 := by rw [e2]; exact Nat.le_add_right _ _
  have hD := Lib.hid (stepD c 256 y1 e1 (by omega))
  have hE := Lib.hid (stepD y1 65536 y2 e2 (by omega))
  have hF := Lib.hid (stepD y2 4294967296 y3 e3 (by omega))
  have hG := Lib.hid (stepE y3 e4)
  have e6 : (0 : Int) ≤ y3 ∧ (y3 : Int) ≤ 9223372036854775807 := by omega
  obtain ⟨e6, e7⟩ := e6
  rw [e5'] at hG
  clear s1 s2 s3 s4 e1 e2 e3 e5 e5' l2 l3
  go_enter Tryd.func62, Tryd.ntmps62
  go_upto_region 2 with (fail)
  rw [hA.out]
  go_upto_region 3 with (fail)
  rw [hB.out]
  go_upto_region 4 with (fail)
  rw [hC.out]
  go_upto_region 5 with (fail)
  have hD' := hD.out
  simp only [Int.cast_ofNat_Int] at hD'
  rw [hD']; clear hD'
  go_upto_region 6 with (fail)
  have hE' := hE.out
  simp only [Int.cast_ofNat_Int] at hE'
  rw [hE']; clear hE'
  go_upto_region 7 with (fail)
  have hF' := hF.out
  simp only [Int.cast_ofNat_Int] at hF'
  rw [hF']; clear hF'
  go_wp2
  rw [hG.out]
  exact bodyPost_ret (v := .int .i64 (ones 64 n)) (by simp [results, Tryd.results62, go_sem]) rfl ⟨rfl, rfl⟩
end Go.Proofs.YtniibbgcdaijfaaDoor
