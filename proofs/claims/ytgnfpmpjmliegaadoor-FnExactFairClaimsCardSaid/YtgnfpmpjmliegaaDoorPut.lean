/-
  A number put into a set: the model's, the program's.
-/
import Derived.Test.YtgnfpmpjmliegaaDoorAt
import Derived.Test.YtgnfpmpjmliegaaDoorRow
import Derived.Test.YtgnfpmpjmliegaaDoorSets
import Derived.BigRegion
import Derived.RangeFuncNested
import Derived.Lib.Hide
namespace Go.Proofs.YtgnfpmpjmliegaaDoor
open Go Go.RowKit

/-- A word of a set with one bit more. -/
def withBit (x : Int) (k : Nat) : Int := bits BinOp.or .u64 x (IntKind.u64.wrap (2 ^ k))
/-- A set with one number more. -/
def putC (g : Nat → Int) (k : Nat) : Nat → Int := fun i => if i = k / 64 then withBit (g i) (k % 64) else g i
theorem putC_low (g : Nat → Int) {k : Nat} (h : k < 64) : acells .u64 2 (fun i => if i = 0 then withBit (g 0) k else g i) = acells .u64 2 (putC g k) := acells_congr (fun i _ => by
  unfold putC
  rw [Nat.div_eq_of_lt h, Nat.mod_eq_of_lt h]
  by_cases e : i = 0
  · subst e; simp
  · simp [e])
theorem putC_high (g : Nat → Int) {k : Nat} (h : k < 128) (e1 : ¬ k < 64) : acells .u64 2 (fun i => if i = 1 then withBit (g 1) (k - 64) else g i) = acells .u64 2 (putC g k) := acells_congr (fun i _ => by
  unfold putC
  rw [show k / 64 = 1 by omega, show k % 64 = k - 64 by omega]
  by_cases e : i = 1
  · subst e; simp
  · simp [e])
theorem zero2 : (#[.int .u64 0, .int .u64 0] : Array Value) = acells .u64 2 (fun _ => 0) := rfl
end Go.Proofs.YtgnfpmpjmliegaaDoor
