/-
  CellsOfKind: the model's, the program's.
-/
import Derived.Test.YtaioflkonpommaaDoorCoreD
import Derived.Test.YtaioflkonpommaaDoorCoreA
import Derived.BigRegionIn
import Derived.Deep.QuietTactic
namespace Go.Proofs.YtaioflkonpommaaDoor
open Go Go.RowKit Go.Shelf
attribute [local go_sem] Oper.semAt_some

/-- The cells below n that have a kind. -/
def kindSet (f : Fd) (v : Int) : Nat → Nat → Int
  | 0 => fun _ => 0
  | n + 1 => if (isCell f n && f.K n == v) = true then putC (kindSet f v n) n else kindSet f v n
theorem kindSet_yes {f : Fd} {v : Int} {n : Nat} (h1 : isCell f n = true) (h2 : (f.K n == v) = true) : kindSet f v (n + 1) = putC (kindSet f v n) n := by
  rw [kindSet, h1, h2]; rfl
theorem kindSet_no {f : Fd} {v : Int} {n : Nat} (h : (isCell f n && f.K n == v) = false) : kindSet f v (n + 1) = kindSet f v n := by
  rw [kindSet, h]; rfl
def kindOk (f : Fd) (v : Int) : Bool := okF f && inB v 0 3
def cellsOfKind (f : Fd) (v : Int) : Nat → Int := if kindOk f v then kindSet f v 100 else fun _ => 0
def kindCode (f : Fd) (v : Int) : Int := if okF f = false then 1 else if inB v 0 3 = false then 2 else 0
/-- The cells of a list that have a kind. -/
def kindL {f : Fd} (v : Int) (l : List (CellOf f)) : Nat → Int := l.foldl (fun g c => if (f.K c.1 == v) = true then putC g c.1 else g) (fun _ => 0)
theorem kindL_snoc {f : Fd} (v : Int) (l : List (CellOf f)) (c : CellOf f) : kindL v (l ++ [c]) = if (f.K c.1 == v) = true then putC (kindL v l) c.1 else kindL v l := by simp only [kindL, List.foldl_append, List.foldl_cons, List.foldl_nil]
theorem kindL_to (f : Fd) (v : Int) : ∀ n, kindL v (cellsTo f n) = kindSet f v n
  | 0 => rfl
  | n + 1 => by
    have ih := kindL_to f v n
    cases h : isCell f n with
    | true =>
      rw [cellsTo_yes h, kindL_snoc, ih, kindSet, h, Bool.true_and]
    | false => rw [cellsTo_no h, ih, kindSet_no (by rw [h]; rfl)]

end Go.Proofs.YtaioflkonpommaaDoor
