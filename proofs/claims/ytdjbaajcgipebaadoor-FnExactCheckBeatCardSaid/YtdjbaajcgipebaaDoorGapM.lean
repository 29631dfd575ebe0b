/-
  Gaps: from one minute in which a cell is seen to the next one (numbers alone).
-/
import Derived.Test.YtdjbaajcgipebaaDoorBase
namespace Go.Proofs.YtdjbaajcgipebaaDoor
open Go Go.RowKit

/-- How far it is to the next minute that is seen, from m on. -/
def stepD (n : Nat) (S : Nat → Bool) (k : Nat) : Nat → Nat → Nat
  | 0, m => m
  | fu + 1, m => if S ((k + m) % n) then m else stepD n S k fu (m + 1)
def dOf (n : Nat) (S : Nat → Bool) (k : Nat) : Nat := stepD n S k n 1
theorem stepD_eq {n : Nat} {S : Nat → Bool} {k m : Nat} (hm : S ((k + m) % n) = true) : ∀ (fu m' : Nat), m' ≤ m → m < m' + fu → (∀ q, m' ≤ q → q < m → S ((k + q) % n) = false) → stepD n S k fu m' = m
  | 0, m', h1, h2, _ => by omega
  | fu + 1, m', h1, h2, h3 => by
    rw [stepD]
    by_cases e : m' = m
    · subst e; rw [if_pos hm]
    · rw [if_neg (by rw [h3 m' (by omega) (by omega)]; exact Bool.false_ne_true)]
      exact stepD_eq hm fu (m' + 1) (by omega) (by omega) (fun q h4 h5 => h3 q (by omega) h5)
theorem dOf_eq {n : Nat} {S : Nat → Bool} {k m : Nat} (h1 : 1 ≤ m) (h2 : m ≤ n) (hm : S ((k + m) % n) = true) (h3 : ∀ q, 1 ≤ q → q < m → S ((k + q) % n) = false) : dOf n S k = m :=
  stepD_eq hm n 1 h1 (by omega) h3
def gmax (n : Nat) (S : Nat → Bool) : Nat → Nat
  | 0 => 0
  | k + 1 => if S k then max (gmax n S k) (dOf n S k) else gmax n S k
theorem gmax_yes {n : Nat} {S : Nat → Bool} {k : Nat} (h : S k = true) : gmax n S (k + 1) = max (gmax n S k) (dOf n S k) := by rw [gmax, if_pos h]
theorem gmax_no {n : Nat} {S : Nat → Bool} {k : Nat} (h : S k = false) : gmax n S (k + 1) = gmax n S k := by rw [gmax, if_neg (by rw [h]; exact Bool.false_ne_true)]
theorem gmax_le {n : Nat} {S : Nat → Bool} {G : Nat} : ∀ {k : Nat}, (∀ p, p < k → S p = true → dOf n S p ≤ G) → gmax n S k ≤ G
  | 0, _ => Nat.zero_le _
  | k + 1, h => by
    have ih := gmax_le (k := k) (fun p hp hs => h p (by omega) hs)
    cases q : S k with
    | true => rw [gmax_yes q]; have := h k (by omega) q; omega
    | false => rw [gmax_no q]; exact ih
theorem gmax_ge {n : Nat} {S : Nat → Bool} {p : Nat} (hs : S p = true) : ∀ {k : Nat}, p < k → dOf n S p ≤ gmax n S k
  | 0, h => by omega
  | k + 1, h => by
    by_cases e : p = k
    · subst e; rw [gmax_yes hs]; omega
    · have ih := gmax_ge (n := n) hs (k := k) (by omega)
      cases q : S k with
      | true => rw [gmax_yes q]; omega
      | false => rw [gmax_no q]; exact ih
theorem gmax_none {n : Nat} {S : Nat → Bool} : ∀ {k : Nat}, (∀ p, p < k → S p = false) → gmax n S k = 0
  | 0, _ => rfl
  | k + 1, h => by rw [gmax_no (h k (by omega)), gmax_none (k := k) (fun p hp => h p (by omega))]
/-- The minutes below k that are seen. -/
def minS (S : Nat → Bool) : Nat → List Int
  | 0 => []
  | k + 1 => if S k then minS S k ++ [(k : Int)] else minS S k
theorem minS_yes {S : Nat → Bool} {k : Nat} (h : S k = true) : minS S (k + 1) = minS S k ++ [(k : Int)] := by rw [minS, if_pos h]
theorem minS_no {S : Nat → Bool} {k : Nat} (h : S k = false) : minS S (k + 1) = minS S k := by rw [minS, if_neg (by rw [h]; exact Bool.false_ne_true)]
theorem minS_at {S : Nat → Bool} {i : Nat} : ∀ {n : Nat}, i < (minS S n).length → ∃ m, m < n ∧ S m = true ∧ (minS S n)[i]? = some (m : Int) ∧ (minS S m).length = i
  | 0, h => by simp [minS] at h
  | n + 1, h => by
    cases q : S n with
    | false =>
      rw [minS_no q] at h ⊢
      obtain ⟨m, h1, h2, h3, h4⟩ := minS_at h
      exact ⟨m, by omega, h2, h3, h4⟩
    | true =>
      rw [minS_yes q] at h ⊢
      by_cases e : i < (minS S n).length
      · obtain ⟨m, h1, h2, h3, h4⟩ := minS_at e
        exact ⟨m, by omega, h2, by rw [List.getElem?_append_left e]; exact h3, h4⟩
      · have e2 : i = (minS S n).length := by simp at h; omega
        refine ⟨n, by omega, q, ?_, e2.symm⟩
        rw [List.getElem?_append_right (by omega), e2]; simp
theorem minS_mono {S : Nat → Bool} {a : Nat} : ∀ {b : Nat}, a ≤ b → (minS S a).length ≤ (minS S b).length
  | 0, h => by obtain rfl : a = 0 := by omega
               exact Nat.le_refl _
  | b + 1, h => by
    by_cases e : a = b + 1
    · subst e; exact Nat.le_refl _
    · have ih := minS_mono (S := S) (a := a) (b := b) (by omega)
      cases q : S b with
      | true => rw [minS_yes q, List.length_append]; omega
      | false => rw [minS_no q]; exact ih
theorem minS_same {S : Nat → Bool} {a b : Nat} (h : (minS S a).length = (minS S b).length) {q : Nat} (h1 : a ≤ q) (h2 : q < b) : S q = false := by
  cases e : S q with
  | false => rfl
  | true =>
    have h3 := minS_mono (S := S) (show q + 1 ≤ b by omega)
    have h4 := minS_mono (S := S) h1
    rw [minS_yes e, List.length_append] at h3
    simp at h3
    omega
theorem minS_nil {S : Nat → Bool} {n : Nat} (h : (minS S n).length = 0) {p : Nat} (hp : p < n) : S p = false := minS_same (a := 0) (by rw [h]; rfl) (Nat.zero_le _) hp
/-- The last minute that is seen. -/
theorem minS_last {S : Nat → Bool} {n : Nat} (h : 0 < (minS S n).length) : ∃ l, l < n ∧ S l = true ∧ (∀ q, l < q → q < n → S q = false) ∧ (minS S n)[(minS S n).length - 1]? = some (l : Int) := by
  obtain ⟨m, h1, h2, h3, h4⟩ := minS_at (S := S) (n := n) (i := (minS S n).length - 1) (by omega)
  refine ⟨m, h1, h2, fun q hq1 hq2 => ?_, h3⟩
  refine minS_same (a := m + 1) (b := n) ?_ (by omega) hq2
  rw [minS_yes h2, List.length_append]
  simp; omega
/-- The minute before the minute k, one round earlier if there is none. -/
def prevP (n : Nat) (S : Nat → Bool) (k : Nat) (b : Int) : Prop :=
  (∃ p : Nat, p < k ∧ S p = true ∧ (∀ q, p < q → q < k → S q = false) ∧ b = (p : Int)) ∨ ((∀ q, q < k → S q = false) ∧ ∃ l : Nat, l < n ∧ S l = true ∧ (∀ q, l < q → q < n → S q = false) ∧ b = (l : Int) - (n : Int))
/-- Whether the next minute behind p has come. -/
def closedP (n : Nat) (S : Nat → Bool) (k p : Nat) : Prop := p < n ∧ S p = true ∧ ((∃ q, p < q ∧ q < k ∧ S q = true) ∨ ((∀ q, p < q → q < n → S q = false) ∧ ∃ q, q < k ∧ S q = true))
def gapP (n : Nat) (S : Nat → Bool) (k G : Nat) : Prop := (∀ p, closedP n S k p → dOf n S p ≤ G) ∧ (G = 0 ∨ ∃ p, closedP n S k p ∧ dOf n S p = G)
theorem gapP_zero (n : Nat) (S : Nat → Bool) : gapP n S 0 0 :=
  ⟨fun p h => by rcases h.2.2 with ⟨q, _, h2, _⟩ | ⟨_, q, h2, _⟩ <;> omega, .inl rfl⟩
theorem closedP_mono {n : Nat} {S : Nat → Bool} {k k' p : Nat} (hk : k ≤ k') (h : closedP n S k p) : closedP n S k' p := by
  obtain ⟨h1, h2, h3⟩ := h
  refine ⟨h1, h2, ?_⟩
  rcases h3 with ⟨q, a, b, c⟩ | ⟨a, q, b, c⟩
  · exact .inl ⟨q, a, by omega, c⟩
  · exact .inr ⟨a, q, by omega, c⟩
/-- A minute comes. -/
theorem gap_step {n : Nat} {S : Nat → Bool} {k m : Nat} {b : Int} {G : Nat} (hkm : k ≤ m) (hm : m < n) (hs : S m = true) (hno : ∀ q, k ≤ q → q < m → S q = false) (hp : prevP n S k b) (hg : gapP n S k G) :
    ∃ d : Nat, (m : Int) - b = (d : Int) ∧ d ≤ n ∧ prevP n S (m + 1) m ∧ gapP n S (m + 1) (max G d) := by
  have hprev : prevP n S (m + 1) m := .inl ⟨m, by omega, hs, fun q h1 h2 => by omega, rfl⟩
  rcases hp with ⟨p, p1, p2, p3, rfl⟩ | ⟨h0, l, l1, l2, l3, rfl⟩
  · have hpm : p < m := by omega
    have hd : dOf n S p = m - p := dOf_eq (by omega) (by omega) (by rw [show p + (m - p) = m by omega, Nat.mod_eq_of_lt hm]; exact hs) (fun q q1 q2 => by
      rw [Nat.mod_eq_of_lt (by omega)]
      by_cases e : p + q < k
      · exact p3 _ (by omega) e
      · exact hno _ (by omega) (by omega))
    refine ⟨m - p, by omega, by omega, hprev, fun x hx => ?_, ?_⟩
    · obtain ⟨x1, x2, x3⟩ := hx
      by_cases hc : closedP n S k x
      · have := hg.1 x hc; omega
      · have : x = p := by
          rcases x3 with ⟨q, a, c, e⟩ | ⟨a, q, c, e⟩
          · by_cases hqk : q < k
            · exact absurd ⟨x1, x2, .inl ⟨q, a, hqk, e⟩⟩ hc
            · by_cases hqm : q < m
              · rw [hno q (by omega) hqm] at e; cases e
              · have hxk : x < k := by
                  by_cases hh : x < k
                  · exact hh
                  · rw [hno x (by omega) (by omega)] at x2; cases x2
                by_cases h1 : x < p
                · exact absurd ⟨x1, x2, .inl ⟨p, h1, p1, p2⟩⟩ hc
                · by_cases h2 : p < x
                  · rw [p3 x h2 hxk] at x2; cases x2
                  · omega
          · exact absurd ⟨x1, x2, .inr ⟨a, p, p1, p2⟩⟩ hc
        subst this
        rw [hd]; omega
    · by_cases h : G ≤ m - p
      · exact .inr ⟨p, ⟨by omega, p2, .inl ⟨m, hpm, by omega, hs⟩⟩, by rw [hd]; omega⟩
      · rcases hg.2 with h0 | ⟨x, hx, he⟩
        · omega
        · exact .inr ⟨x, closedP_mono (by omega) hx, by rw [he]; omega⟩
  · have hml : m ≤ l := by
      by_cases h : m ≤ l
      · exact h
      · rw [l3 m (by omega) hm] at hs; cases hs
    have hd : dOf n S l = m + n - l := dOf_eq (by omega) (by omega) (by rw [show l + (m + n - l) = m + n by omega, Nat.add_mod_right, Nat.mod_eq_of_lt hm]; exact hs) (fun q q1 q2 => by
      by_cases e : l + q < n
      · rw [Nat.mod_eq_of_lt e]; exact l3 _ (by omega) e
      · rw [show l + q = (l + q - n) + n by omega, Nat.add_mod_right, Nat.mod_eq_of_lt (by omega)]
        by_cases e2 : l + q - n < k
        · exact h0 _ e2
        · exact hno _ (by omega) (by omega))
    refine ⟨m + n - l, by omega, by omega, hprev, fun x hx => ?_, ?_⟩
    · obtain ⟨x1, x2, x3⟩ := hx
      have hxm : m ≤ x := by
        by_cases h : m ≤ x
        · exact h
        · by_cases h2 : x < k
          · rw [h0 x h2] at x2; cases x2
          · rw [hno x (by omega) (by omega)] at x2; cases x2
      have : x = l := by
        rcases x3 with ⟨q, a, c, e⟩ | ⟨a, q, c, e⟩
        · omega
        · by_cases h1 : x < l
          · rw [a l h1 l1] at l2; cases l2
          · by_cases h2 : l < x
            · rw [l3 x h2 x1] at x2; cases x2
            · omega
      subst this
      rw [hd]; omega
    · by_cases h : G ≤ m + n - l
      · exact .inr ⟨l, ⟨l1, l2, .inr ⟨l3, m, by omega, hs⟩⟩, by rw [hd]; omega⟩
      · rcases hg.2 with h0 | ⟨x, hx, he⟩
        · omega
        · exact .inr ⟨x, closedP_mono (by omega) hx, by rw [he]; omega⟩
theorem gap_end {n : Nat} {S : Nat → Bool} {k G : Nat} (hno : ∀ q, k ≤ q → q < n → S q = false) (hg : gapP n S k G) : gmax n S n = G := by
  have h1 : gmax n S n ≤ G := gmax_le (fun p hp hs => hg.1 p ⟨hp, hs, by
    by_cases h : ∃ q, p < q ∧ q < n ∧ S q = true
    · obtain ⟨q, a, b, c⟩ := h
      refine .inl ⟨q, a, ?_, c⟩
      by_cases h : q < k
      · exact h
      · rw [hno q (by omega) b] at c; cases c
    · refine .inr ⟨fun q a b => ?_, p, ?_, hs⟩
      · cases e : S q with
        | false => rfl
        | true => exact absurd ⟨q, a, b, e⟩ h
      · by_cases h : p < k
        · exact h
        · rw [hno p (by omega) hp] at hs; cases hs⟩)
  rcases hg.2 with h0 | ⟨x, hx, he⟩
  · omega
  · have := gmax_ge (n := n) hx.2.1 hx.1
    omega
theorem dOf_in {n : Nat} {S : Nat → Bool} {k : Nat} (hk : k < n) (hs : S k = true) : 1 ≤ dOf n S k ∧ dOf n S k ≤ n ∧ S ((k + dOf n S k) % n) = true ∧ ∀ q, 1 ≤ q → q < dOf n S k → S ((k + q) % n) = false := by
  have key : ∀ (m : Nat), m ≤ n → (∀ q, 1 ≤ q → q < m → S ((k + q) % n) = false) → 1 ≤ m → (∃ d, m ≤ d ∧ d ≤ n ∧ S ((k + d) % n) = true ∧ ∀ q, 1 ≤ q → q < d → S ((k + q) % n) = false) := by
    intro m hm
    induction h : n - m generalizing m with
    | zero =>
      intro h1 h2
      obtain rfl : m = n := by omega
      exact ⟨m, Nat.le_refl _, Nat.le_refl _, by rw [Nat.add_mod_right, Nat.mod_eq_of_lt hk]; exact hs, h1⟩
    | succ r ih =>
      intro h1 h2
      cases e : S ((k + m) % n) with
      | true => exact ⟨m, Nat.le_refl _, hm, e, h1⟩
      | false =>
        obtain ⟨d, d1, d2⟩ := ih (m + 1) (by omega) (by omega) (fun q q1 q2 => by
          by_cases e2 : q = m
          · subst e2; exact e
          · exact h1 q q1 (by omega)) (by omega)
        exact ⟨d, by omega, d2⟩
  obtain ⟨d, d1, d2, d3, d4⟩ := key 1 (by omega) (fun q q1 q2 => by omega) (Nat.le_refl _)
  have e := dOf_eq d1 d2 d3 d4
  rw [e]
  exact ⟨d1, d2, d3, d4⟩
theorem gmax_bound {n : Nat} {S : Nat → Bool} : ∀ {k : Nat}, k ≤ n → gmax n S k ≤ n := fun {k} hk => gmax_le (fun p hp hs => (dOf_in (by omega) hs).2.1)
theorem gmax_pos {n : Nat} {S : Nat → Bool} {p : Nat} (hp : p < n) (hs : S p = true) : 0 < gmax n S n := by
  have h1 := gmax_ge (n := n) hs hp
  have h2 := (dOf_in hp hs).1
  omega
end Go.Proofs.YtdjbaajcgipebaaDoor
