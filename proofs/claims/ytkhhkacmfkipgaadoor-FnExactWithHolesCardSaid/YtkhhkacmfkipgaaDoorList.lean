/-
  The list of a set, ascending, as the model makes it: a slice of its own.
-/
import Derived.Test.YtkhhkacmfkipgaaDoorSets
import Derived.Below
import Derived.Lib.Hide
import Derived.OwnWalk
namespace Go.Proofs.YtkhhkacmfkipgaaDoor
open Go Go.RowKit

def hlist (f : Nat → Int) (k : Nat) : List Int := ((List.range k).filter (fun c : Nat => hasC f (c : Int))).map (fun c : Nat => (c : Int))
theorem hlist_hit {f : Nat → Int} {k : Nat} (h : hasC f (k : Int) = true) : hlist f (k + 1) = hlist f k ++ [(k : Int)] := by
  simp [hlist, List.range_succ, List.filter_append, h]
theorem hlist_miss {f : Nat → Int} {k : Nat} (h : hasC f (k : Int) = false) : hlist f (k + 1) = hlist f k := by
  simp [hlist, List.range_succ, List.filter_append, h]
theorem hlist_le (f : Nat → Int) (k : Nat) : (hlist f k).length ≤ k := by
  have := List.length_filter_le (fun c : Nat => hasC f (c : Int)) (List.range k)
  simpa [hlist] using this
theorem infoI64 : (Tryd.prog.info? 2).map (fun i => (i.zero, i.size, i.bytes)) = some (some (.int .i64 0), 1, 8) := by kernel_rfl
theorem list_keep {f : Nat → Int} {k n₀ : Nat} {w wr w1 : World} {v v' : Value} {o : Obj} (h : hasC f (k : Int) = true) (hn : n₀ = w.heap.size)
    (hown : wr.ownsRow n₀ 2 1 v (hlist f k).length ((hlist f k).map (Value.int .i64))) (hnx : Below n₀ w wr)
    (hown' : w1.ownsRow n₀ 2 1 v' ((hlist f k).length + 1) ((hlist f k).map (Value.int .i64) ++ [.int .i64 k])) (hgrow : (wr.alloc o).grownBy w1 v.ownBlock) :
    w1.ownsRow n₀ 2 1 v' (hlist f (k + 1)).length ((hlist f (k + 1)).map (Value.int .i64)) ∧ Below n₀ w w1 := by
  have hsz := hnx.size
  refine ⟨by rw [hlist_hit h]; simpa using hown', (hnx.alloc (by omega) o).grown hgrow (by simp; omega) (fun j hj => (hown.lt j hj).1)⟩

end Go.Proofs.YtkhhkacmfkipgaaDoor
