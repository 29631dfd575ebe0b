/-
  The program's check of a field and some of its cells.
-/
import Derived.Test.YtniibbgcdaijfaaChk
import Derived.WalkSpells
namespace Go.Proofs.Ytniibbgcdaijfaa
open Go Go.RowKit

theorem okF_size {f : Fd} (h : okF f = true) : 1 ≤ f.W ∧ f.W ≤ 10 ∧ 1 ≤ f.H ∧ f.H ≤ 10 := by
  simp only [okF, Bool.and_eq_true, inB_iff] at h; omega

end Go.Proofs.Ytniibbgcdaijfaa
