/-
  Sums over the numbers of a field and over its cells.
-/
import Derived.Test.YtgnfpmpjmliegaaDoorIter
namespace Go.Proofs.YtgnfpmpjmliegaaDoor
open Go Go.RowKit Go.Shelf

def totTo (g : Nat → Int) : Nat → Int
  | 0 => 0
  | n + 1 => totTo g n + g n
theorem totTo_succ (g : Nat → Int) (n : Nat) : totTo g (n + 1) = totTo g n + g n := rfl
theorem totTo_in {g : Nat → Int} {a m : Int} (ha : a ≤ 0) (hm : 0 ≤ m) : ∀ {n : Nat}, (∀ i, i < n → a ≤ g i ∧ g i ≤ m) → a * n ≤ totTo g n ∧ totTo g n ≤ m * n
  | 0, _ => by simp [totTo]
  | n + 1, h => by
    have := totTo_in (n := n) ha hm (fun i hi => h i (by omega))
    have := h n (by omega)
    simp only [totTo, Int.natCast_add, Int.mul_add]
    omega
theorem totTo_congr {g h : Nat → Int} : ∀ {n : Nat}, (∀ i, i < n → g i = h i) → totTo g n = totTo h n
  | 0, _ => rfl
  | n + 1, e => by rw [totTo_succ, totTo_succ, totTo_congr (fun i hi => e i (by omega)), e n (by omega)]
theorem totTo_sub (g h : Nat → Int) : ∀ n, totTo (fun i => g i - h i) n = totTo g n - totTo h n
  | 0 => rfl
  | n + 1 => by rw [totTo_succ, totTo_succ, totTo_succ, totTo_sub g h n]; omega
/-- The sum over some cells. -/
def totL {f : Fd} (g : Nat → Int) (l : List (CellOf f)) : Int := l.foldl (fun s c => s + g c.1) 0
theorem totL_snoc {f : Fd} (g : Nat → Int) (l : List (CellOf f)) (c : CellOf f) : totL g (l ++ [c]) = totL g l + g c.1 := by simp [totL, List.foldl_append]
theorem totL_to {f : Fd} {g : Nat → Int} (h0 : ∀ i : Nat, i < 100 → isCell f i = false → g i = 0) : ∀ n, n ≤ 100 → totL g (cellsTo f n) = totTo g n
  | 0, _ => rfl
  | n + 1, hn => by
    have ih := totL_to h0 n (by omega)
    cases hc : isCell f n with
    | true => rw [cellsTo_yes hc, totL_snoc, ih]; rfl
    | false => rw [cellsTo_no hc, ih, totTo_succ, h0 n (by omega) hc, Int.add_zero]
theorem ok_outS {f : Fd} {n : Nat} (h : okF f = true) (hn : n < 100) (hc : isCell f n = false) : f.S n = 0 := by
  simp only [okF, Bool.and_eq_true] at h
  have := allTo_iff.1 h.2 n hn
  simp only [cellOk, hc, Bool.false_or, Bool.and_eq_true, beq_iff_eq] at this
  exact this.2.2
theorem ok_outK {f : Fd} {n : Nat} (h : okF f = true) (hn : n < 100) (hc : isCell f n = false) : f.K n = 0 := by
  simp only [okF, Bool.and_eq_true] at h
  have := allTo_iff.1 h.2 n hn
  simp only [cellOk, hc, Bool.false_or, Bool.and_eq_true, beq_iff_eq] at this
  exact this.2.1
end Go.Proofs.YtgnfpmpjmliegaaDoor
