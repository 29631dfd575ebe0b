/-
  What stands round a walk whose row lists two sentinels: errRange and errState.
-/
import Derived.Test.YtfnpbpokieckcaaDoorCard
import Derived.Test.YtfnpbpokieckcaaDoorScrChk
namespace Go.Proofs.YtfnpbpokieckcaaDoor
open Go Go.ChangeShapes Go.WideShapes Go.ChangeAt Go.RowKit

def sentNames2 : List (String × List UInt8) := [("loop.example/g01338/impl.errRange", [114, 97, 110, 103, 101]), ("loop.example/g01338/impl.errState", [115, 116, 97, 116, 101])]
def laidSents2 : List (String × DataW Unit) := sentNames2.map (fun x => (x.1, DataW.iface "*errors.errorString" (.ptr (.agg [.lit (.string x.2)]))))
theorem sentGlobal2 : ∀ x ∈ sentNames2, ∃ g, Tryd.prog.globalNamed x.1 = some g ∧ (Tryd.prog.globals[g]?).map (·.type) = some 65 := by
  intro x hx
  simp only [sentNames2, List.mem_cons, List.mem_nil_iff, or_false] at hx
  rcases hx with rfl | rfl
  · exact ⟨0, by kernel_rfl, by kernel_rfl⟩
  · exact ⟨1, by kernel_rfl, by kernel_rfl⟩
theorem sent24_of {W : World} (h : laidMet Tryd.prog (laidSents2 ++ []) W) : ∃ A, Sent24 W A := by
  obtain ⟨ps, hv, hnd, hrows⟩ := h
  obtain ⟨av, hl, _, hdis, hat⟩ := sents_of_vars (P := Tryd.prog) Tryd.underlying65 rowES Tryd.underlying136 Tryd.underlying162 rfl rfl Tryd.underlying9 (by kernel_rfl) (by kernel_rfl) sentNames2 [] ps hv sentGlobal2 hrows hnd
  have hl2 : av.length = 2 := hl
  obtain ⟨a, b, rfl⟩ : ∃ a b, av = [a, b] := by
    match av, hl2 with
    | [a, b], _ => exact ⟨a, b, rfl⟩
  refine ⟨fun k => if k = 2 then a else b, ?_, ?_⟩
  · have h := World.var?_cell (show Tryd.prog.globalNamed "loop.example/g01338/impl.errRange" = some 0 by kernel_rfl) (hat 0 _ a rfl rfl).var 0
    simpa using h
  · have h := World.var?_cell (show Tryd.prog.globalNamed "loop.example/g01338/impl.errState" = some 1 by kernel_rfl) (hat 1 _ b rfl rfl).var 0
    simpa using h
end Go.Proofs.YtfnpbpokieckcaaDoor
