/-
  Days of feeding: the field behind each day; the seeds that a day's visits eat are those that the field loses.
-/
import Derived.Test.YtaioflkonpommaaDoorSth
namespace Go.Proofs.YtaioflkonpommaaDoor
open Go Go.RowKit

def sumD (g : Nat → Int) : Nat → Int
  | 0 => 0
  | n + 1 => sumD g n + g n
theorem sumD_succ (g : Nat → Int) (n : Nat) : sumD g (n + 1) = sumD g n + g n := rfl
theorem sumD_in {g : Nat → Int} {m : Int} : ∀ {n : Nat}, (∀ i, i < n → 0 ≤ g i ∧ g i ≤ m) → 0 ≤ sumD g n ∧ sumD g n ≤ m * n
  | 0, _ => by simp [sumD]
  | n + 1, h => by
    obtain ⟨h1, h2⟩ := sumD_in (n := n) (fun i hi => h i (by omega))
    obtain ⟨h3, h4⟩ := h n (by omega)
    have e : m * ((n + 1 : Nat) : Int) = m * (n : Int) + m := by rw [Int.natCast_succ, Int.mul_add, Int.mul_one]
    rw [sumD_succ, e]
    omega
theorem sumD_congr {g h : Nat → Int} : ∀ n, (∀ i, i < n → g i = h i) → sumD g n = sumD h n
  | 0, _ => rfl
  | n + 1, e => by rw [sumD_succ, sumD_succ, sumD_congr n (fun i hi => e i (by omega)), e n (by omega)]
theorem sumD_one (g : Nat → Int) (x : Int) (n : Nat) : ∀ k, sumD (fun i => if i = n then g n - x else g i) k = sumD g k - (if n < k then x else 0)
  | 0 => by simp [sumD]
  | k + 1 => by
    rw [sumD_succ, sumD_succ, sumD_one g x n k]
    by_cases h : k = n
    · subst h
      simp only [if_true, Nat.lt_irrefl, if_false, Nat.lt_succ_self]
      omega
    · rw [if_neg h]
      by_cases h2 : n < k
      · rw [if_pos h2, if_pos (by omega)]; omega
      · rw [if_neg h2, if_neg (by omega)]; omega
/-- The seeds of rows of visits. -/
def sV (R : List (Nat → Int)) : Int := sumD (fun i => rowsF R i 2) R.length
theorem sV_snoc (R : List (Nat → Int)) (r : Nat → Int) : sV (R ++ [r]) = sV R + r 2 := by
  unfold sV
  rw [List.length_append, List.length_singleton, sumD_succ, rowsF_last]
  rw [sumD_congr R.length (fun i hi => rowsF_snoc hi 2)]
theorem fdR_sum {f : Fd} {g a : Nat → Int} {u : Int} (hf : f.Wf) (hok : okF f = true) (hh : 0 ≤ a 1 * a 2 ∧ a 1 * a 2 ≤ 4000) (R : List (Nat → Int)) : ∀ k, fdW f g a k = k → sV (R ++ fdR u f g a k) = sV R + (sumD f.S 100 - sumD (fdF f g a k).S 100)
  | 0, _ => by
    show sV (R ++ []) = sV R + (sumD f.S 100 - sumD f.S 100)
    rw [List.append_nil]; omega
  | k + 1, h => by
    obtain ⟨h1, h2⟩ := fdW_inv h
    obtain ⟨q1, _, _, _⟩ := fd_ok (g := g) hf hok hh k h1
    obtain ⟨n, hn, _, _, _, _, _, eF, _, _, _, _, eV⟩ := fd_meal q1 h2
    have ih := fdR_sum (u := u) hf hok hh R k h1
    have e2 : fdV u f g a k 2 = minI (fdL f g a k) ((fdF f g a k).S n) := by rw [eV u]; rfl
    have eS : sumD (fdF f g a (k + 1)).S 100 = sumD (fdF f g a k).S 100 - minI (fdL f g a k) ((fdF f g a k).S n) := by
      rw [eF]
      have h9 := sumD_one (fdF f g a k).S (minI (fdL f g a k) ((fdF f g a k).S n)) n 100
      rw [if_pos hn] at h9
      exact h9
    rw [fdR_snoc, ← List.append_assoc, sV_snoc, ih, e2, eS]
    omega
theorem fdAR_sum {f : Fd} {g : Nat → Int} {F : Nat → Nat → Int} {n : Nat} (hf : f.Wf) (hok : okF f = true) (hF : ∀ i, i < n → flockOk f (F i) = true) : ∀ i, i ≤ n → sV (fdAR f g F i) = sumD f.S 100 - sumD (fdA f g F i).S 100
  | 0, _ => by show (0 : Int) = sumD f.S 100 - sumD f.S 100; omega
  | i + 1, hi => by
    obtain ⟨h1, h2⟩ := fdA_ok (g := g) hf hok hF i (by omega)
    have ih := fdAR_sum (g := g) hf hok hF i (by omega)
    have h3 := fdR_sum (g := g) (u := (i : Int)) h2 h1 (flock_hunger (hF i (by omega))) (fdAR f g F i) (fdN (fdA f g F i) g (F i)) (fdW_fdN _ _ _ 4)
    show sV (fdAR f g F i ++ fdR (i : Int) (fdA f g F i) g (F i) (fdN (fdA f g F i) g (F i))) = sumD f.S 100 - sumD (fdF (fdA f g F i) g (F i) (fdN (fdA f g F i) g (F i))).S 100
    rw [h3, ih]; omega
theorem fdSt_kinds (f : Fd) (g a : Nat → Int) : ∀ k, (fdF f g a k).K = f.K
  | 0 => rfl
  | k + 1 => by
    have ih := fdSt_kinds f g a k
    funext i
    show (if i = eaN (fdF f g a k) g a then (fdF f g a k).K (eaN (fdF f g a k) g a) else (fdF f g a k).K i) = f.K i
    rw [ih]
    split
    · rename_i h; rw [h]
    · rfl
theorem fdA_kinds (f : Fd) (g : Nat → Int) (F : Nat → Nat → Int) : ∀ i, (fdA f g F i).K = f.K
  | 0 => rfl
  | i + 1 => (fdSt_kinds _ _ _ _).trans (fdA_kinds f g F i)
theorem flockOk_fdA (f : Fd) (g : Nat → Int) (F : Nat → Nat → Int) (i : Nat) (a : Nat → Int) : flockOk (fdA f g F i) a = flockOk f a := by
  obtain ⟨h1, h2⟩ := fdA_size f g F i
  unfold flockOk treeAt isCell
  rw [h1, h2, fdA_kinds]
/-- The field behind each day. -/
def dyF (f : Fd) (g : Nat → Int) (n : Nat) (F : Nat → Nat → Int) : Nat → Fd
  | 0 => f
  | k + 1 => fdA (dyF f g n F k) g F n
def dyE (f : Fd) (g : Nat → Int) (n : Nat) (F : Nat → Nat → Int) (k : Nat) : Int := sumD (dyF f g n F k).S 100 - sumD (dyF f g n F (k + 1)).S 100
theorem dyF_ok {f : Fd} {g : Nat → Int} {n : Nat} {F : Nat → Nat → Int} (hf : f.Wf) (hok : okF f = true) (hF : ∀ i, i < n → flockOk f (F i) = true) : ∀ k, okF (dyF f g n F k) = true ∧ (dyF f g n F k).Wf ∧ ∀ i, i < n → flockOk (dyF f g n F k) (F i) = true
  | 0 => ⟨hok, hf, hF⟩
  | k + 1 => by
    obtain ⟨h1, h2, h3⟩ := dyF_ok (g := g) hf hok hF k
    obtain ⟨q1, q2⟩ := fdA_ok (g := g) h2 h1 h3 n (Nat.le_refl _)
    exact ⟨q1, q2, fun i hi => by show flockOk (fdA (dyF f g n F k) g F n) (F i) = true; rw [flockOk_fdA]; exact h3 i hi⟩
theorem dyE_sum {f : Fd} {g : Nat → Int} {n : Nat} {F : Nat → Nat → Int} (hf : f.Wf) (hok : okF f = true) (hF : ∀ i, i < n → flockOk f (F i) = true) (k : Nat) : sV (fdAR (dyF f g n F k) g F n) = dyE f g n F k := by
  obtain ⟨h1, h2, h3⟩ := dyF_ok (g := g) hf hok hF k
  exact fdAR_sum h2 h1 h3 n (Nat.le_refl _)
theorem dyF_size (f : Fd) (g : Nat → Int) (n : Nat) (F : Nat → Nat → Int) : ∀ k, (dyF f g n F k).W = f.W ∧ (dyF f g n F k).H = f.H
  | 0 => ⟨rfl, rfl⟩
  | k + 1 => by
    obtain ⟨h1, h2⟩ := dyF_size f g n F k
    obtain ⟨h3, h4⟩ := fdA_size (dyF f g n F k) g F n
    exact ⟨h3.trans h1, h4.trans h2⟩
theorem ok_seedsD {f : Fd} (hok : okF f = true) {i : Nat} (hi : i < 100) : 0 ≤ f.S i ∧ f.S i ≤ 1000 := by
  simp only [okF, Bool.and_eq_true] at hok
  have h9 := allTo_iff.1 hok.2 i hi
  simp only [cellOk, Bool.and_eq_true, inB_iff] at h9
  exact h9.1.1.2
theorem dyF_sum {f : Fd} (hok : okF f = true) : 0 ≤ sumD f.S 100 ∧ sumD f.S 100 ≤ 100000 := by
  have h := sumD_in (g := f.S) (m := 1000) (n := 100) (fun i hi => ok_seedsD hok hi)
  exact ⟨h.1, by have := h.2; omega⟩
def dyIn (x : Int) : Bool := inB x 0 60
def dyOk (f : Fd) (g : Nat → Int) (n : Nat) (F : Nat → Nat → Int) (x : Int) : Bool := alOk f g n F && dyIn x
def dyCode (f : Fd) (g : Nat → Int) (n : Nat) (F : Nat → Nat → Int) (x : Int) : Int := if alOk f g n F then (if dyIn x then 0 else 2) else 1
def dyQ (f : Fd) (g : Nat → Int) (n : Nat) (F : Nat → Nat → Int) (x : Int) : Fd := if dyOk f g n F x then dyF f g n F x.toNat else Fd.zero
def dyN (f : Fd) (g : Nat → Int) (n : Nat) (F : Nat → Nat → Int) (x : Int) : Nat := if dyOk f g n F x then x.toNat else 0
theorem dyN_le (f : Fd) (g : Nat → Int) (n : Nat) (F : Nat → Nat → Int) (x : Int) : dyN f g n F x ≤ 60 := by
  unfold dyN
  split
  · rename_i h
    simp only [dyOk, dyIn, Bool.and_eq_true, inB_iff] at h
    omega
  · omega
theorem dyQ_size (f : Fd) (hf : f.Wf) (g : Nat → Int) (n : Nat) (F : Nat → Nat → Int) (x : Int) : (-128 ≤ (dyQ f g n F x).W ∧ (dyQ f g n F x).W ≤ 127) ∧ (-128 ≤ (dyQ f g n F x).H ∧ (dyQ f g n F x).H ≤ 127) := by
  have h1 := hf.W
  have h2 := hf.H
  unfold dyQ
  split
  · rw [(dyF_size f g n F _).1, (dyF_size f g n F _).2]; exact ⟨h1, h2⟩
  · exact ⟨⟨by decide, by decide⟩, ⟨by decide, by decide⟩⟩
end Go.Proofs.YtaioflkonpommaaDoor
