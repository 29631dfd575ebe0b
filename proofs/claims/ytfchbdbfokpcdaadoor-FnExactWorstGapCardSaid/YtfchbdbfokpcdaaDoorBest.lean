/-
  The best cell of a set: what it is; the model's nearest cell.
-/
import Derived.Test.YtfchbdbfokpcdaaDoorBits
import Derived.Test.YtfchbdbfokpcdaaDoorNums
import Derived.Test.YtfchbdbfokpcdaaDoorSquare
import Derived.Deep.QuietTactic
namespace Go.Proofs.YtfchbdbfokpcdaaDoor
open Go Go.RowKit

/-- The number below n, of those that m tells, of which v is greatest, the least of several; -1 if m tells none. -/
def bestTo (m : Nat → Bool) (v : Nat → Int) : Nat → Int
  | 0 => -1
  | n + 1 => if (m n && (decide (bestTo m v n < 0) || decide (v (bestTo m v n).toNat < v n))) = true then (n : Int) else bestTo m v n
theorem best_no {m : Nat → Bool} {v : Nat → Int} {n : Nat} (h : m n = false) : bestTo m v (n + 1) = bestTo m v n := by simp [bestTo, h]
theorem best_first {m : Nat → Bool} {v : Nat → Int} {n : Nat} (h : m n = true) (h1 : bestTo m v n = -1) : bestTo m v (n + 1) = (n : Int) := by simp [bestTo, h, h1]
theorem best_more {m : Nat → Bool} {v : Nat → Int} {n p : Nat} (h : m n = true) (h1 : bestTo m v n = (p : Int)) (h2 : v p < v n) : bestTo m v (n + 1) = (n : Int) := by simp [bestTo, h, h1, h2]
theorem best_less {m : Nat → Bool} {v : Nat → Int} {n p : Nat} (h1 : bestTo m v n = (p : Int)) (h2 : ¬ v p < v n) : bestTo m v (n + 1) = (p : Int) := by
  have h3 : ¬ ((p : Int) < 0) := by omega
  simp [bestTo, h1, h2, h3]
theorem best_cases (m : Nat → Bool) (v : Nat → Int) : ∀ n, bestTo m v n = -1 ∨ ∃ p : Nat, bestTo m v n = (p : Int) ∧ p < n ∧ m p = true
  | 0 => .inl rfl
  | n + 1 => by
    cases h : m n with
    | false =>
      rw [best_no h]
      rcases best_cases m v n with h1 | ⟨p, h1, h2, h3⟩
      · exact .inl h1
      · exact .inr ⟨p, h1, by omega, h3⟩
    | true =>
      rcases best_cases m v n with h1 | ⟨p, h1, h2, h3⟩
      · exact .inr ⟨n, best_first h h1, by omega, h⟩
      · by_cases h4 : v p < v n
        · exact .inr ⟨n, best_more h h1 h4, by omega, h⟩
        · exact .inr ⟨p, best_less h1 h4, by omega, h3⟩
theorem best_none {m : Nat → Bool} {v : Nat → Int} : ∀ {n : Nat}, bestTo m v n = -1 → ∀ j : Nat, j < n → m j = false
  | 0, _, j, hj => by omega
  | n + 1, h, j, hj => by
    cases hm : m n with
    | true =>
      exfalso
      rcases best_cases m v n with h1 | ⟨p, h1, h2, h3⟩
      · rw [best_first hm h1] at h; omega
      · by_cases h4 : v p < v n
        · rw [best_more hm h1 h4] at h; omega
        · rw [best_less h1 h4] at h; omega
    | false =>
      rw [best_no hm] at h
      by_cases e : j = n
      · subst e; exact hm
      · exact best_none h j (by omega)
theorem best_congr {m m' : Nat → Bool} {v v' : Nat → Int} : ∀ {n : Nat}, (∀ j : Nat, j < n → m j = m' j) → (∀ j : Nat, j < n → m j = true → v j = v' j) → bestTo m v n = bestTo m' v' n
  | 0, _, _ => rfl
  | n + 1, h, hv => by
    have ih := best_congr (n := n) (fun j hj => h j (by omega)) (fun j hj hm => hv j (by omega) hm)
    cases hm : m n with
    | false => rw [best_no hm, best_no (by rw [← h n (by omega)]; exact hm), ih]
    | true =>
      have hm' : m' n = true := by rw [← h n (by omega)]; exact hm
      have e := hv n (by omega) hm
      rcases best_cases m v n with h1 | ⟨p, h1, h2, h3⟩
      · rw [best_first hm h1, best_first hm' (ih ▸ h1)]
      · have e2 := hv p (by omega) h3
        by_cases h4 : v p < v n
        · rw [best_more hm h1 h4, best_more hm' (ih ▸ h1) (by rw [← e, ← e2]; exact h4)]
        · rw [best_less h1 h4, best_less (ih ▸ h1) (by rw [← e, ← e2]; exact h4)]
/-- The same of a list of numbers, one behind the other. -/
def bestL {g : Nat → Int} (v : Nat → Int) (l : List (NumOf g)) : Int := l.foldl (fun b c => if (decide (b < 0) || decide (v b.toNat < v c.1)) = true then (c.1 : Int) else b) (-1)
theorem bestL_snoc {g : Nat → Int} (v : Nat → Int) (l : List (NumOf g)) (c : NumOf g) : bestL v (l ++ [c]) = if (decide (bestL v l < 0) || decide (v (bestL v l).toNat < v c.1)) = true then (c.1 : Int) else bestL v l := by unfold bestL; rw [List.foldl_append]; rfl
theorem bestL_to (g : Nat → Int) (v : Nat → Int) : ∀ n, n ≤ 100 → bestL v (numsTo g n) = bestTo (fun k => hasC g (k : Int)) v n
  | 0, _ => rfl
  | n + 1, hn => by
    have ih := bestL_to g v n (by omega)
    cases h : hasC g (n : Int) with
    | true => rw [numsTo_yes ⟨by omega, h⟩, bestL_snoc, ih, bestTo]; simp only [h, Bool.true_and]
    | false => rw [numsTo_no h, best_no h, ih]
theorem bestL_from {g : Nat → Int} (v : Nat → Int) : ∀ (l : List (NumOf g)) (b : Int), (b = -1 ∨ ∃ p : Nat, b = (p : Int) ∧ p < 100 ∧ hasC g (p : Int) = true) →
    (l.foldl (fun b c => if (decide (b < 0) || decide (v b.toNat < v c.1)) = true then (c.1 : Int) else b) b = -1 ∨ ∃ p : Nat, l.foldl (fun b c => if (decide (b < 0) || decide (v b.toNat < v c.1)) = true then (c.1 : Int) else b) b = (p : Int) ∧ p < 100 ∧ hasC g (p : Int) = true)
  | [], b, h => h
  | c :: l, b, h => by
    rw [List.foldl_cons]
    refine bestL_from v l _ ?_
    split
    · exact .inr ⟨c.1, rfl, c.2.1, c.2.2⟩
    · exact h
theorem bestL_cases {g : Nat → Int} (v : Nat → Int) (l : List (NumOf g)) : bestL v l = -1 ∨ ∃ p : Nat, bestL v l = (p : Int) ∧ p < 100 ∧ hasC g (p : Int) = true := bestL_from v l (-1) (.inl rfl)
theorem bestL_first {g : Nat → Int} {v : Nat → Int} {l : List (NumOf g)} {c : NumOf g} (h : bestL v l = -1) : bestL v (l ++ [c]) = (c.1 : Int) := by rw [bestL_snoc, h]; simp
theorem bestL_more {g : Nat → Int} {v : Nat → Int} {l : List (NumOf g)} {c : NumOf g} {p : Nat} (h : bestL v l = (p : Int)) (h2 : v p < v c.1) : bestL v (l ++ [c]) = (c.1 : Int) := by rw [bestL_snoc, h]; simp [h2]
theorem bestL_less {g : Nat → Int} {v : Nat → Int} {l : List (NumOf g)} {c : NumOf g} {p : Nat} (h : bestL v l = (p : Int)) (h2 : ¬ v p < v c.1) : bestL v (l ++ [c]) = (p : Int) := by
  have h3 : ¬ ((p : Int) < 0) := by omega
  rw [bestL_snoc, h]; simp [h2, h3]
/-- The cells of a field that a set has. -/
def inSet (f : Fd) (g : Nat → Int) (k : Nat) : Bool := isCell f (k : Int) && hasC g (k : Int)
/-- The nearest cell of a set. -/
def nearest (f : Fd) (c : Nat) (g : Nat → Int) (n : Nat) : Int := bestTo (inSet f g) (fun k => -sq (c : Int) (k : Int)) n
end Go.Proofs.YtfchbdbfokpcdaaDoor
