/-
  The cells that a closure wants: cellsWhere, by what the closure answers for each cell.
-/
import Derived.Test.YtgnfpmpjmliegaaDoorPut
import Derived.Test.YtgnfpmpjmliegaaDoorValid
import Derived.Test.YtgnfpmpjmliegaaDoorRelC
import Derived.BigRegionIn
import Derived.Deep.QuietTactic
namespace Go.Proofs.YtgnfpmpjmliegaaDoor
open Go Go.RowKit Go.Shelf
attribute [local go_sem] Oper.semAt_some

/-- The cells below n that are wanted. -/
def wantSet (f : Fd) (q : Nat → Bool) : Nat → Nat → Int
  | 0 => fun _ => 0
  | n + 1 => if (isCell f n && q n) = true then putC (wantSet f q n) n else wantSet f q n
theorem wantSet_yes {f : Fd} {q : Nat → Bool} {n : Nat} (h1 : isCell f n = true) (h2 : q n = true) : wantSet f q (n + 1) = putC (wantSet f q n) n := by
  rw [wantSet, h1, h2]; rfl
theorem wantSet_no {f : Fd} {q : Nat → Bool} {n : Nat} (h : (isCell f n && q n) = false) : wantSet f q (n + 1) = wantSet f q n := by
  rw [wantSet, h]; rfl
/-- The wanted cells of a list. -/
def wantL {f : Fd} (q : Nat → Bool) (l : List (CellOf f)) : Nat → Int := l.foldl (fun g c => if q c.1 = true then putC g c.1 else g) (fun _ => 0)
theorem wantL_snoc {f : Fd} (q : Nat → Bool) (l : List (CellOf f)) (c : CellOf f) : wantL q (l ++ [c]) = if q c.1 = true then putC (wantL q l) c.1 else wantL q l := by simp only [wantL, List.foldl_append, List.foldl_cons, List.foldl_nil]
theorem wantL_to (f : Fd) (q : Nat → Bool) : ∀ n, wantL q (cellsTo f n) = wantSet f q n
  | 0 => rfl
  | n + 1 => by
    have ih := wantL_to f q n
    cases h : isCell f n with
    | true =>
      rw [cellsTo_yes h, wantL_snoc, ih, wantSet, h, Bool.true_and]
    | false => rw [cellsTo_no h, ih, wantSet_no (by rw [h]; rfl)]
end Go.Proofs.YtgnfpmpjmliegaaDoor
