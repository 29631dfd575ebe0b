/-
  What stands round a walk whose row lists one sentinel: errInvalid.
-/
import Derived.Test.YtmiafnmenolemaaDoorCard
import Derived.Test.YtmiafnmenolemaaDoorChk
namespace Go.Proofs.YtmiafnmenolemaaDoor
open Go Go.ChangeShapes Go.WideShapes Go.ChangeAt Go.RowKit

def sentNames1 : List (String × List UInt8) := [("loop.example/g01338/impl.errInvalid", [105, 110, 118, 97, 108, 105, 100])]
def laidSents1 : List (String × DataW Unit) := sentNames1.map (fun x => (x.1, DataW.iface "*errors.errorString" (.ptr (.agg [.lit (.string x.2)]))))
theorem sentGlobal1 : ∀ x ∈ sentNames1, ∃ g, Tryd.prog.globalNamed x.1 = some g ∧ (Tryd.prog.globals[g]?).map (·.type) = some 52 := by
  intro x hx
  simp only [sentNames1, List.mem_cons, List.mem_nil_iff, or_false] at hx
  subst hx
  exact ⟨1, by kernel_rfl, by kernel_rfl⟩
theorem sent1_of {W : World} (h : laidMet Tryd.prog (laidSents1 ++ []) W) : ∃ A, Sent1 W A := by
  obtain ⟨ps, hv, hnd, hrows⟩ := h
  obtain ⟨av, hl, _, hdis, hat⟩ := sents_of_vars (P := Tryd.prog) Tryd.underlying52 rowES Tryd.underlying92 Tryd.underlying118 rfl rfl Tryd.underlying9 (by kernel_rfl) (by kernel_rfl) sentNames1 [] ps hv sentGlobal1 hrows hnd
  have hl2 : av.length = 1 := hl
  obtain ⟨a, rfl⟩ : ∃ a, av = [a] := by
    match av, hl2 with
    | [a], _ => exact ⟨a, rfl⟩
  refine ⟨fun _ => a, ⟨?_⟩⟩
  have h := World.var?_cell (show Tryd.prog.globalNamed "loop.example/g01338/impl.errInvalid" = some 1 by kernel_rfl) (hat 0 _ a rfl rfl).var 0
  simpa using h
end Go.Proofs.YtmiafnmenolemaaDoor
