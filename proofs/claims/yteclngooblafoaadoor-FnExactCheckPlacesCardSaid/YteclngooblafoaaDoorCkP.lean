/-
  Whether places cover all targets: what is to be told, as the model and as the program find it.
-/
import Derived.Test.YteclngooblafoaaDoorCov
import Derived.Test.YteclngooblafoaaDoorCovC
import Derived.Test.YteclngooblafoaaDoorSetB
import Derived.Test.YteclngooblafoaaDoorSetN
import Derived.Test.YteclngooblafoaaDoorCoreD
namespace Go.Proofs.YteclngooblafoaaDoor
open Go Go.RowKit

theorem hasC_orK {f g : Nat → Int} (hf : U64 f) (hg : U64 g) {j : Nat} (hj : j < 100) : hasC (joinC .or f g) (j : Int) = (hasC f (j : Int) || hasC g (j : Int)) := by
  obtain ⟨a, b, ea, eb, ha, hb, h, _⟩ := or_nat hf hg (j / 64)
  have hab : a ||| b < 18446744073709551616 := by rw [p64] at ha hb ⊢; exact or_bound ha hb
  rw [hasC_bit hj h hab, hasC_bit hj ea ha, hasC_bit hj eb hb, Nat.testBit_or]
theorem want_N100K (f : Fd) (q : Nat → Bool) : ∀ n, n ≤ 100 → N100 (wantSet f q n)
  | 0, _ => zero_N100
  | n + 1, h => by
    cases e : (isCell f n && q n) with
    | true =>
      have e' := e
      simp only [Bool.and_eq_true] at e'
      rw [wantSet_yes e'.1 e'.2]; exact putC_N100 (want_N100K f q n (by omega)) (by omega)
    | false => rw [wantSet_no e]; exact want_N100K f q n (by omega)
theorem allTo_more (k : Nat) (p : Nat → Bool) : allTo (k + 1) p = (allTo k p && p k) := by unfold allTo; rw [List.range_succ, List.all_append]; simp
/-- Nothing is left: both words are zero. -/
theorem less_zero {f g : Nat → Int} (hf : N100 f) (hg : U64 g) : (joinC .andNot f g 0 = 0 ∧ joinC .andNot f g 1 = 0) ↔ ∀ j : Nat, j < 100 → (hasC f (j : Int) && !hasC g (j : Int)) = false := by
  constructor
  · intro h j hj
    rw [← hasC_less hf.1 hg hj]
    have h2 : hasC (joinC .andNot f g) (j : Int) = hasC (fun _ => 0) (j : Int) := by unfold hasC; rw [h.1, h.2]
    rw [h2, hasC_zero j hj]
  · intro h
    exact word_zero (less_N100 hf hg) (fun j hj => by rw [hasC_less hf.1 hg hj]; exact h j hj)
/-- Whether a scarecrow can stand there. -/
def plcB (f : Fd) (c : Int) : Bool := isCell f c && f.K c.toNat != 3
theorem plc_cell {f : Fd} {c : Int} (h : plcB f c = true) : ∃ p : Nat, p < 100 ∧ c = (p : Int) ∧ isCell f (p : Int) = true ∧ f.K p ≠ 3 := by
  unfold plcB at h
  simp only [Bool.and_eq_true] at h
  obtain ⟨p, hp, rfl⟩ := cell_nat h.1
  exact ⟨p, hp, rfl, h.1, by simpa using h.2⟩
/-- What is covered from a number. -/
def cvZ (f : Fd) (x y : Int) (c : Int) : Nat → Int := cvS f c.toNat x y
theorem cvZ_N100 (f : Fd) (x y : Int) (c : Int) : N100 (cvZ f x y c) := want_N100K f _ 100 (Nat.le_refl _)
/-- What is covered from the first numbers, as the model finds it. -/
def cvN (CS : Int → Nat → Int) (g : Nat → Int) : Nat → Nat → Int
  | 0 => fun _ => 0
  | k + 1 => joinC .or (cvN CS g k) (CS (g k))
theorem cvN_N100 {CS : Int → Nat → Int} (hN : ∀ c, N100 (CS c)) (g : Nat → Int) : ∀ k, N100 (cvN CS g k)
  | 0 => zero_N100
  | k + 1 => or_N100 (cvN_N100 hN g k) (hN _)
theorem cvN_has {CS : Int → Nat → Int} (hN : ∀ c, N100 (CS c)) (g : Nat → Int) {j : Nat} (hj : j < 100) : ∀ k, hasC (cvN CS g k) (j : Int) = !allTo k (fun i => !hasC (CS (g i)) (j : Int))
  | 0 => by rw [cvN, hasC_zero j hj]; rfl
  | k + 1 => by
    rw [cvN, hasC_orK (cvN_N100 hN g k).1 (hN _).1 hj, cvN_has hN g hj k, allTo_more]
    simp
/-- The numbers that the program knows, and what it has found. -/
def knS (g : Nat → Int) : Nat → Nat → Int
  | 0 => fun _ => 0
  | k + 1 => if hasC (knS g k) (g k) = true then knS g k else putC (knS g k) (g k).toNat
def alS (CS : Int → Nat → Int) (g : Nat → Int) : Nat → Nat → Int
  | 0 => fun _ => 0
  | k + 1 => if hasC (knS g k) (g k) = true then alS CS g k else joinC .or (alS CS g k) (CS (g k))
theorem knS_yes {g : Nat → Int} {k : Nat} (h : hasC (knS g k) (g k) = true) : knS g (k + 1) = knS g k := by rw [knS, if_pos h]
theorem knS_no {g : Nat → Int} {k : Nat} (h : hasC (knS g k) (g k) = false) : knS g (k + 1) = putC (knS g k) (g k).toNat := by rw [knS, if_neg (by rw [h]; decide)]
theorem alS_yes {CS : Int → Nat → Int} {g : Nat → Int} {k : Nat} (h : hasC (knS g k) (g k) = true) : alS CS g (k + 1) = alS CS g k := by rw [alS, if_pos h]
theorem alS_no {CS : Int → Nat → Int} {g : Nat → Int} {k : Nat} (h : hasC (knS g k) (g k) = false) : alS CS g (k + 1) = joinC .or (alS CS g k) (CS (g k)) := by rw [alS, if_neg (by rw [h]; decide)]
theorem knS_N100 {g : Nat → Int} : ∀ {k}, (∀ i, i < k → 0 ≤ g i ∧ g i ≤ 99) → N100 (knS g k)
  | 0, _ => zero_N100
  | k + 1, h => by
    have ih := knS_N100 (k := k) (fun i hi => h i (by omega))
    cases e : hasC (knS g k) (g k) with
    | true => rw [knS_yes e]; exact ih
    | false => rw [knS_no e]; have := h k (by omega); exact putC_N100 ih (by omega)
theorem knS_has {g : Nat → Int} {j : Nat} (hj : j < 100) : ∀ {k}, (∀ i, i < k → 0 ≤ g i ∧ g i ≤ 99) → hasC (knS g k) (j : Int) = !allTo k (fun i => !decide (g i = (j : Int)))
  | 0, _ => by rw [knS, hasC_zero j hj]; rfl
  | k + 1, h => by
    have hb : ∀ i, i < k → 0 ≤ g i ∧ g i ≤ 99 := fun i hi => h i (by omega)
    have ih := knS_has hj hb
    have hk := h k (by omega)
    rw [allTo_more, Bool.not_and, ← ih, Bool.not_not]
    cases e : hasC (knS g k) (g k) with
    | true =>
      rw [knS_yes e]
      by_cases ek : g k = (j : Int)
      · rw [← ek, e]; rfl
      · rw [decide_eq_false ek, Bool.or_false]
    | false =>
      rw [knS_no e, hasC_put (knS_N100 hb).1 hj]
      congr 1
      exact decide_eq_decide.2 (by omega)
theorem alS_N100 {CS : Int → Nat → Int} (hN : ∀ c, N100 (CS c)) (g : Nat → Int) : ∀ k, N100 (alS CS g k)
  | 0 => zero_N100
  | k + 1 => by
    cases e : hasC (knS g k) (g k) with
    | true => rw [alS_yes e]; exact alS_N100 hN g k
    | false => rw [alS_no e]; exact or_N100 (alS_N100 hN g k) (hN _)
theorem alS_has {CS : Int → Nat → Int} (hN : ∀ c, N100 (CS c)) {g : Nat → Int} {j : Nat} (hj : j < 100) : ∀ {k}, (∀ i, i < k → 0 ≤ g i ∧ g i ≤ 99) → hasC (alS CS g k) (j : Int) = !allTo k (fun i => !hasC (CS (g i)) (j : Int))
  | 0, _ => by rw [alS, hasC_zero j hj]; rfl
  | k + 1, h => by
    have hb : ∀ i, i < k → 0 ≤ g i ∧ g i ≤ 99 := fun i hi => h i (by omega)
    have ih := alS_has hN hj hb
    have hk := h k (by omega)
    rw [allTo_more, Bool.not_and, ← ih, Bool.not_not]
    cases e : hasC (knS g k) (g k) with
    | true =>
      rw [alS_yes e]
      cases e2 : hasC (CS (g k)) (j : Int) with
      | false => rw [Bool.or_false]
      | true =>
        obtain ⟨p, hp⟩ : ∃ p : Nat, g k = (p : Int) := ⟨(g k).toNat, by omega⟩
        rw [hp, knS_has (by omega) hb] at e
        rw [Bool.or_true, ih]
        have e3 : allTo k (fun i => !decide (g i = (p : Int))) = false := by simpa using e
        have e4 : ¬ ∀ i, i < k → (!decide (g i = (p : Int))) = true := fun h9 => by rw [allTo_iff.2 h9] at e3; cases e3
        simp only [Classical.not_forall] at e4
        obtain ⟨i, hi, hn⟩ := e4
        have hgi : g i = (p : Int) := by simpa using hn
        rw [allTo_false hi (by show (!hasC (CS (g i)) (j : Int)) = false; rw [hgi, ← hp, e2]; rfl)]; rfl
    | false => rw [alS_no e, hasC_orK (alS_N100 hN g k).1 (hN _).1 hj]
/-- What is no place is not known. -/
theorem knS_none {f : Fd} {g : Nat → Int} {k : Nat} (h : ∀ i, i < k → plcB f (g i) = true) {c : Int} (hc : plcB f c = false) : hasC (knS g k) c = false := by
  by_cases h9 : 0 ≤ c ∧ c ≤ 99
  · obtain ⟨p, rfl⟩ : ∃ p : Nat, c = (p : Int) := ⟨c.toNat, by omega⟩
    have hb : ∀ i, i < k → 0 ≤ g i ∧ g i ≤ 99 := fun i hi => by
      obtain ⟨q, hq, e, _⟩ := plc_cell (h i hi); omega
    rw [knS_has (by omega) hb, allTo_iff.2 (fun i hi => by
      have h1 := h i hi
      by_cases e : g i = (p : Int)
      · rw [e, hc] at h1; cases h1
      · rw [decide_eq_false e]; rfl)]
    rfl
  · unfold hasC inB
    have : ¬ (0 ≤ c ∧ c ≤ 99) := h9
    simp
    omega
/-- Whether all of some targets are covered. -/
def coverB (CS : Int → Nat → Int) (g : Nat → Int) (m : Nat) (T : Nat → Int) : Bool := allTo 100 (fun j => !hasC T (j : Int) || !allTo m (fun i => !hasC (CS (g i)) (j : Int)))
def ckB (f : Fd) (CS : Int → Nat → Int) (g : Nat → Int) (m : Nat) (T : Nat → Int) : Bool := allTo m (fun i => plcB f (g i)) && coverB CS g m T
def ckCode (f : Fd) (x y : Int) : Int := gmCode f (inB x 1 1000 && inB y 1 1000)
theorem coverB_less {CS : Int → Nat → Int} (hN : ∀ c, N100 (CS c)) {g : Nat → Int} {m : Nat} (hb : ∀ i, i < m → 0 ≤ g i ∧ g i ≤ 99) {T : Nat → Int} (hT : N100 T) : coverB CS g m T = true ↔ (joinC .andNot T (alS CS g m) 0 = 0 ∧ joinC .andNot T (alS CS g m) 1 = 0) := by
  rw [less_zero hT (alS_N100 hN g m).1]
  unfold coverB
  rw [allTo_iff]
  constructor
  · intro h j hj
    have h1 := h j hj
    rw [alS_has hN hj hb]
    revert h1
    cases hasC T (j : Int) <;> simp
  · intro h j hj
    have h1 := h j hj
    rw [alS_has hN hj hb] at h1
    revert h1
    cases hasC T (j : Int) <;> simp
theorem mem_hlist {g : Nat → Int} {i : Nat} (hi : i < (hlist g 100).length) : ∃ c : Nat, c < 100 ∧ hasC g (c : Int) = true ∧ (hlist g 100).getD i 0 = (c : Int) := by
  have hm : (hlist g 100).getD i 0 ∈ hlist g 100 := by simp [List.getD, List.getElem?_eq_getElem hi]
  simp only [hlist, List.mem_map, List.mem_filter, List.mem_range] at hm
  obtain ⟨c, ⟨h1, h2⟩, h3⟩ := hm
  exact ⟨c, h1, h2, h3.symm⟩
theorem hlist_at {g : Nat → Int} {c : Nat} (hc : c < 100) (h : hasC g (c : Int) = true) : ∃ i, i < (hlist g 100).length ∧ (hlist g 100).getD i 0 = (c : Int) := by
  have hm : (c : Int) ∈ hlist g 100 := by
    simp only [hlist, List.mem_map, List.mem_filter, List.mem_range]
    exact ⟨c, ⟨hc, h⟩, rfl⟩
  obtain ⟨i, hi, e⟩ := List.getElem_of_mem hm
  exact ⟨i, hi, by simp [List.getD, List.getElem?_eq_getElem hi, e]⟩
theorem coverB_list {CS : Int → Nat → Int} (hN : ∀ c, N100 (CS c)) {g : Nat → Int} {m : Nat} {T : Nat → Int} (h : ∀ i, i < (hlist T 100).length → hasC (cvN CS g m) ((hlist T 100).getD i 0) = true) : coverB CS g m T = true := by
  unfold coverB
  rw [allTo_iff]
  intro j hj
  cases hT : hasC T (j : Int) with
  | false => rfl
  | true =>
    obtain ⟨i, hi, e⟩ := hlist_at hj hT
    have h1 := h i hi
    rw [e, cvN_has hN g hj m] at h1
    show (false || _) = true
    rw [Bool.false_or]; exact h1
theorem coverB_miss {CS : Int → Nat → Int} (hN : ∀ c, N100 (CS c)) {g : Nat → Int} {m : Nat} {T : Nat → Int} {i : Nat} (hi : i < (hlist T 100).length) (h : hasC (cvN CS g m) ((hlist T 100).getD i 0) = false) : coverB CS g m T = false := by
  obtain ⟨c, hc, h2, e⟩ := mem_hlist hi
  rw [e, cvN_has hN g hc m] at h
  exact allTo_false hc (by show (!hasC T (c : Int) || !allTo m (fun i => !hasC (CS (g i)) (c : Int))) = false; rw [h2, h]; rfl)
end Go.Proofs.YteclngooblafoaaDoor
