/-
  The program's check of a field and some of its cells.
-/
import Derived.Test.YtfapmofobhbdgaaDoorChk
import Derived.WalkSpells
namespace Go.Proofs.YtfapmofobhbdgaaDoor
open Go Go.RowKit

theorem errIf_true (A : Nat → Addr) (k : Nat) : errIf A k true = .nilIface := rfl
theorem errIf_false (A : Nat → Addr) (k : Nat) : errIf A k false = errVal (A k) := rfl
theorem okF_size {f : Fd} (h : okF f = true) : 1 ≤ f.W ∧ f.W ≤ 10 ∧ 1 ≤ f.H ∧ f.H ≤ 10 := by
  simp only [okF, Bool.and_eq_true, inB_iff] at h; omega

end Go.Proofs.YtfapmofobhbdgaaDoor
