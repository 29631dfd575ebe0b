/-
  How many numbers a set has: by the list, and by the words' bits.
-/
import Derived.Test.YtkhhkacmfkipgaaDoorList
import Derived.Test.YtkhhkacmfkipgaaDoorPop
import Derived.Test.YtkhhkacmfkipgaaDoorSets2
import Derived.Deep.QuietTactic
namespace Go.Proofs.YtkhhkacmfkipgaaDoor
open Go Go.RowKit

attribute [local irreducible] ones
theorem ones_zero_bits (x : Nat) : ones 0 x = 0 := by unfold ones; rfl
theorem ones_step (k x : Nat) : ones (k + 1) x = x % 2 + ones k (x / 2) := by conv => lhs; unfold ones
theorem ones_last (k x : Nat) : ones (k + 1) x = ones k x + x / 2 ^ k % 2 := by
  rw [ones_add k 1 x, ones_step, ones_zero_bits]; simp
theorem ones_zero : ∀ k, ones k 0 = 0
  | 0 => ones_zero_bits 0
  | k + 1 => by rw [ones_step]; simp [ones_zero k]
theorem bit_one (a : Nat) (ha : a < 18446744073709551616) : (bits .and .u64 (a : Int) 1 == 1) = decide (a % 2 = 1) := by
  have h := bits_and_u64_nat a 1 ha (by omega)
  simp only [Int.cast_ofNat_Int] at h
  rw [h, show a &&& 1 = a % 2 from Nat.and_one_is_mod a]
  by_cases h2 : a % 2 = 1 <;> simp [h2] <;> omega
theorem hasC_low {f : Nat → Int} {x k : Nat} (hf : f 0 = x) (hx : x < 18446744073709551616) (hk : k < 64) : hasC f (k : Int) = decide (x / 2 ^ k % 2 = 1) := by
  have e1 : inB (k : Int) 0 99 = true := by simp [inB]; omega
  have e2 : ((k : Int) % 64).toNat = k := by omega
  have e3 : ((x : Int) / 2 ^ k) = ((x / 2 ^ k : Nat) : Int) := by simp
  unfold hasC
  rw [e1, if_pos (by omega), e2, hf, e3, bit_one _ (Nat.lt_of_le_of_lt (Nat.div_le_self _ _) hx)]
  simp
theorem hasC_high {f : Nat → Int} {y k : Nat} (hf : f 1 = y) (hy : y < 18446744073709551616) (hk : k < 36) : hasC f ((64 + k : Nat) : Int) = decide (y / 2 ^ k % 2 = 1) := by
  have e1 : inB ((64 + k : Nat) : Int) 0 99 = true := by simp [inB]; omega
  have e2 : (((64 + k : Nat) : Int) % 64).toNat = k := by omega
  have e3 : ((y : Int) / 2 ^ k) = ((y / 2 ^ k : Nat) : Int) := by simp
  unfold hasC
  rw [e1, if_neg (by omega), e2, hf, e3, bit_one _ (Nat.lt_of_le_of_lt (Nat.div_le_self _ _) hy)]
  simp
theorem hlist_succ (f : Nat → Int) (k : Nat) : (hlist f (k + 1)).length = (hlist f k).length + (if hasC f (k : Int) = true then 1 else 0) := by
  cases h : hasC f (k : Int) with
  | true => rw [hlist_hit h]; simp
  | false => rw [hlist_miss h]; simp
theorem count_low {f : Nat → Int} {x : Nat} (hf : f 0 = x) (hx : x < 18446744073709551616) : ∀ k, k ≤ 64 → (hlist f k).length = ones k x
  | 0, _ => by rw [ones_zero_bits]; rfl
  | k + 1, h => by
    rw [hlist_succ, count_low hf hx k (by omega), ones_last k x, hasC_low hf hx (by omega)]
    by_cases h2 : x / 2 ^ k % 2 = 1 <;> simp [h2]; omega
theorem count_high {f : Nat → Int} {x y : Nat} (hf : f 0 = x) (hx : x < 18446744073709551616) (hg : f 1 = y) (hy : y < 18446744073709551616) : ∀ k, k ≤ 36 → (hlist f (64 + k)).length = ones 64 x + ones k y
  | 0, _ => by rw [ones_zero_bits, Nat.add_zero, Nat.add_zero]; exact count_low hf hx 64 (Nat.le_refl _)
  | k + 1, h => by
    rw [show 64 + (k + 1) = (64 + k) + 1 by omega, hlist_succ, count_high hf hx hg hy k (by omega), ones_last k y, hasC_high hg hy (by omega)]
    by_cases h2 : y / 2 ^ k % 2 = 1 <;> simp [h2] <;> omega
theorem ones_cut (k m y : Nat) : ones (k + m) (y % 2 ^ k) = ones k y := by
  rw [ones_add, Nat.div_eq_of_lt (Nat.mod_lt _ (Nat.two_pow_pos k)), ones_zero, Nat.add_zero, ones_mod]
theorem two36 : (2 : Nat) ^ 36 = 68719476736 := by decide +kernel
theorem ones_masked (y : Nat) : ones 64 (y % 68719476736) = ones 36 y := two36 ▸ ones_cut 36 28 y
theorem ones_le : ∀ (k x : Nat), ones k x ≤ k
  | 0, x => by rw [ones_zero_bits]; exact Nat.le_refl _
  | k + 1, x => by have := ones_le k (x / 2); rw [ones_step]; omega
theorem masked (y : Nat) (hy : y < 18446744073709551616) : bits .and .u64 (y : Int) 68719476735 = ((y % 68719476736 : Nat) : Int) := by
  have h := bits_and_u64_nat y 68719476735 hy (by omega)
  simp only [Int.cast_ofNat_Int] at h
  have e := Nat.and_two_pow_sub_one_eq_mod y 36
  rw [two36] at e
  rw [h, ← e]

set_option maxRecDepth 100000 in
theorem implCountCells (x y : Nat) (hx : x < 18446744073709551616) (hy : y < 18446744073709551616) (w : World) : Calls Tryd.prog 57 #[.agg #[.int .u64 x, .int .u64 y]] w fun e w' =>
    e = .returned (.int .i64 ((ones 64 x + ones 36 y : Nat) : Int)) ∧ Below w.heap.size w w' := by
  have hmk := Lib.hid (masked y hy)
  have b1 := ones_le 64 x
  have b2 := ones_le 36 y
  have hym : y % 68719476736 < 18446744073709551616 := by omega
  have hoy := Lib.hid (ones_masked y)
  go_enter Tryd.func57, Tryd.ntmps57
  go_upto_region 1 with (fail)
  obtain ⟨W, hW, M⟩ := open1 w #[.int .u64 (x : Int), .int .u64 (y : Int)] 39
  rw [hW]; clear hW
  have c0 := (M.at 0 rfl).cell (i := 0) (v := .int .u64 x) rfl
  have c1 := (M.at 0 rfl).cell (i := 1) (v := .int .u64 y) rfl
  go_upto_region 2 with (go_at_call 70; refine (onlyNumbers_any _ _ _).mono ?_; rintro e w1 ⟨rfl, hb⟩; rw [hmk.out]; have M1 := M.call hb; have d0 := (M1.at 0 rfl).cell (i := 0) (v := .int .u64 x) rfl; have d1 := (M1.at 0 rfl).cell (i := 1) (v := .int .u64 y) rfl; have e0 := (M1.at 0 rfl).free 0; have e1 := (M1.at 0 rfl).free 1)
  rw [show ((y : Int) % 68719476736) = ((y % 68719476736 : Nat) : Int) by omega]
  generalize hym2 : y % 68719476736 = z at *
  have M2 := (M1.set 0 0 (.int .u64 x) rfl _ rfl).set 0 1 (.int .u64 z) rfl _ rfl
  have f0 := (M2.at 0 rfl).cell (i := 0) (v := .int .u64 x) rfl
  have f1 := (M2.at 0 rfl).cell (i := 1) (v := .int .u64 z) rfl
  have M3 := M2.drew
  generalize (w1.setCell ⟨w.heap.size, 0, none⟩ (.int .u64 (x : Int))).setCell ⟨w.heap.size, 1, none⟩ (.int .u64 (z : Int)) = W2 at *
  clear d0 d1 e0 e1 M1 M c0 c1
  go_quiet (first | (go_at_call 79; exact Calls.quiet_of_same (onesCount64 _ (by assumption) _)))
  have hw : wrap64 ((ones 64 x : Int) + (ones 64 z : Int)) = ((ones 64 x + ones 36 y : Nat) : Int) := by
    rw [hoy.out, ← Int.natCast_add]
    have : ones 64 x + ones 36 y ≤ 100 := by omega
    generalize ones 64 x + ones 36 y = q at *
    unfold wrap64
    omega
  rw [hw]
  go_wp2
  exact bodyPost_ret (v := .int .i64 ((ones 64 x + ones 36 y : Nat) : Int)) (by simp [results, Tryd.results57, go_sem]) rfl ⟨rfl, (M2.drewN nq).out⟩

theorem wf_u64 {n : Int} (h : (Lit.int .u64 n).wf = true) : 0 ≤ n ∧ n < 18446744073709551616 := by
  have e1 : IntKind.u64.min = 0 := by decide
  have e2 : IntKind.u64.max = 18446744073709551615 := by decide
  simp [Lit.wf, e1, e2] at h
  omega
theorem countCells_any (f : Nat → Int) (hf : ∀ i, i < 2 → (Lit.int .u64 (f i)).wf = true) (w : World) : Calls Tryd.prog 57 #[.agg (acells .u64 2 f)] w fun e w' =>
    e = .returned (.int .i64 (hlist f 100).length) ∧ Below w.heap.size w w' := by
  obtain ⟨a0, a1⟩ := wf_u64 (hf 0 (by omega))
  obtain ⟨b0, b1⟩ := wf_u64 (hf 1 (by omega))
  have ha : f 0 = ((f 0).toNat : Int) := by omega
  have hb : f 1 = ((f 1).toNat : Int) := by omega
  have hc := count_high ha (by omega) hb (by omega) 36 (Nat.le_refl _)
  have e : acells .u64 2 f = #[.int .u64 ((f 0).toNat : Int), .int .u64 ((f 1).toNat : Int)] := by
    rw [← ha, ← hb]; simp [acells, List.range_succ]
  rw [e, show (100 : Nat) = 64 + 36 from rfl, hc]
  exact implCountCells _ _ (by omega) (by omega) w
end Go.Proofs.YtkhhkacmfkipgaaDoor
