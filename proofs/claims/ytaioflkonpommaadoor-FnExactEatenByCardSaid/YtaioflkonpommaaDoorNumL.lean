/-
  The first numbers of a function, as a list.
-/
import Derived.Test.YtaioflkonpommaaDoorCoreA
import Derived.Laws.AppendOwn
namespace Go.Proofs.YtaioflkonpommaaDoor
open Go Go.RowKit

def nums (g : Nat → Int) (n : Nat) : List Int := (List.range n).map g
theorem nums_length (g : Nat → Int) (n : Nat) : (nums g n).length = n := by simp [nums]
theorem nums_getD (g : Nat → Int) (n i : Nat) (hi : i < n) : (nums g n).getD i 0 = g i := by simp [nums, List.getD, List.getElem?_range hi]
theorem nums_append (g h : Nat → Int) (n m : Nat) : nums g n ++ nums h m = nums (fun i => if i < n then g i else h (i - n)) (n + m) := by
  apply List.ext_getElem?
  intro i
  by_cases hi : i < n + m
  · rw [List.getElem?_eq_getElem (show i < (nums (fun i => if i < n then g i else h (i - n)) (n + m)).length by rw [nums_length]; exact hi)]
    by_cases h1 : i < n
    · rw [List.getElem?_append_left (by rw [nums_length]; exact h1), List.getElem?_eq_getElem (by rw [nums_length]; exact h1)]
      simp [nums, h1]
    · rw [List.getElem?_append_right (by rw [nums_length]; omega), nums_length, List.getElem?_eq_getElem (by rw [nums_length]; omega)]
      simp [nums, h1]
  · rw [List.getElem?_eq_none (by rw [List.length_append, nums_length, nums_length]; omega), List.getElem?_eq_none (by rw [nums_length]; omega)]
/-- Behind an append to a row of the call's own. -/
theorem below_own {n0 : Nat} {a wr w1 : World} {v : Value} {xs : List Value} {e : TypeId} {sz n : Nat} (hb : Below n0 a wr) (hs : n0 ≤ wr.heap.size) (hown : wr.ownsRow n0 e sz v n xs) (hgrow : wr.grownBy w1 v.ownBlock) : Below n0 a w1 :=
  hb.grown hgrow hs (fun j hj => (hown.lt j hj).1)
theorem grown_le {wr w1 : World} {row : Option Nat} (h : wr.grownBy w1 row) : wr.heap.size ≤ w1.heap.size := h.size
end Go.Proofs.YtaioflkonpommaaDoor
