/-
  The program's sentinel errors by their codes: errors.Is on them, errorOf, codeOf.
-/
import Derived.Test.YtniibbgcdaijfaaBase
import Derived.LaidEql
import Derived.Stop.Asserts
import Derived.RowKitTokens
import Derived.Lib.Hide
import Derived.Stop.IfaceNil
namespace Go.Proofs.Ytniibbgcdaijfaa
open Go Go.RowKit Go.Extern.Stop Go.Stop Go.Extern

theorem isIfaceErr : Try.prog.isIface 85 = true := by kernel_rfl
theorem cell_later {w w' : World} {a : Addr} {v : Value} (h : w.cell? a = some v) (hb : Below w.heap.size w w') : w'.cell? a = some v := by
  have hlt := World.block_lt_of_cell? _ _ h
  obtain ⟨b, o, s⟩ := a
  rw [← h]
  simp only [World.cell?, hb.block b hlt]
end Go.Proofs.Ytniibbgcdaijfaa
