/-
  A pair of fields as one row of cells; its methods on single cells.
-/
import Derived.Test.YtddbpbibjiahgaaDoorPair
import Derived.Test.YtddbpbibjiahgaaDoorCoreA
import Derived.Test.YtddbpbibjiahgaaDoorCoreD
namespace Go.Proofs.YtddbpbibjiahgaaDoor
open Go Go.RowKit Go.Shelf
attribute [local go_sem] Oper.semAt_some

def pcells (f g : Fd) : Array Value := fcells f ++ fcells g
theorem pcells_size (f g : Fd) : (pcells f g).size = 404 := by simp [pcells, fcells_size]
theorem pcells_L (f g : Fd) (i : Nat) (h : i < 202) : (pcells f g)[i]? = (fcells f)[i]? := by
  unfold pcells; rw [Array.getElem?_append, if_pos (by rw [fcells_size]; exact h)]
theorem pcells_R (f g : Fd) (i : Nat) : (pcells f g)[202 + i]? = (fcells g)[i]? := by
  unfold pcells; rw [Array.getElem?_append, if_neg (by rw [fcells_size]; omega), fcells_size, Nat.add_sub_cancel_left]
theorem pcells_one (f g : Fd) : (pcells f g).all (·.oneCell') = true := by
  unfold pcells; rw [Array.all_append, fcells_one, fcells_one]; rfl
theorem Blk.early {w : World} {b : Nat} {f g : Fd} {t : TypeId} (h : Blk w b (pcells f g) t) : w.rangeAt b 0 (fcells f).toList :=
  h.range 0 (fun j hj => by rw [Nat.zero_add]; exact pcells_L f g j (by rw [fcells_size] at hj; exact hj))
theorem Blk.late {w : World} {b : Nat} {f g : Fd} {t : TypeId} (h : Blk w b (pcells f g) t) : w.rangeAt b 202 (fcells g).toList :=
  h.range 202 (fun j _ => pcells_R f g j)
theorem Blk.lateSeeds {w : World} {b : Nat} {f g : Fd} {t : TypeId} (h : Blk w b (pcells f g) t) : w.rangeAt b 304 (acells .i16 100 g.S).toList :=
  h.range 304 (fun j hj => by
    rw [acells_size] at hj
    rw [show 304 + j = 202 + (102 + j) by omega, pcells_R, fcells_S g j hj, acells_get _ _ _ _ hj])
def baredB (f g : Fd) (k : Nat) : Bool := decide (0 < f.S k) && (g.S k == 0)
end Go.Proofs.YtddbpbibjiahgaaDoor
