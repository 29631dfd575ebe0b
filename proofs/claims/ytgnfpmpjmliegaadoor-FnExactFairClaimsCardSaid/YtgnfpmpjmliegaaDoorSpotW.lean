/-
  The program's withSpot: a field with one cell's kind and seeds turned.
-/
import Derived.Test.YtgnfpmpjmliegaaDoorImpl1
import Derived.Test.YtgnfpmpjmliegaaDoorIn
import Derived.BigRegion
import Derived.Lib.Hide
namespace Go.Proofs.YtgnfpmpjmliegaaDoor
open Go Go.RowKit

def turned (f : Fd) (n : Nat) (k s : Int) : Fd := (f.setK n k).setS n s
theorem turned_K0 (f : Fd) (n : Nat) (k : Int) : fcells (f.setK n k) = fcells (turned f n k (f.S n)) := fcells_congr rfl rfl (fun i _ => by simp [turned, Fd.setS, Fd.setK]) (fun i _ => by simp [turned, Fd.setS, Fd.setK]; intro e; rw [e])
theorem turned_S0 (f : Fd) (n : Nat) (s : Int) : fcells (f.setS n s) = fcells (turned f n (f.K n) s) := fcells_congr rfl rfl (fun i _ => by simp [turned, Fd.setS, Fd.setK]; intro e; rw [e]) (fun i _ => by simp [turned, Fd.setS, Fd.setK])
end Go.Proofs.YtgnfpmpjmliegaaDoor
