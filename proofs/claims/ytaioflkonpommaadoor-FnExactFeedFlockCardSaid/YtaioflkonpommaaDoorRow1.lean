/-
  A struct of integers that came in: its numbers.
-/
import Derived.Test.YtaioflkonpommaaDoorFlkM
namespace Go.Proofs.YtaioflkonpommaaDoor
open Go Go.ChangeShapes Go.WideShapes Go.ChangeAt Go.RowKit

theorem open_row1 {H : Type} {enc : TypeId × Value → H} {P : Program} {w : World} {b0 base : Nat} {r : Reach} {spare : Nat → Bool} {held : Bool} {t : TypeId} {fs : Array Field} {ks : List IntKind} {v : Value} {d : DataW H} {pl : List MemPlace}
    (he : P.underlying t = some (.struct fs)) (hC : P.cellsOf t = ks.length) (hfi : intFields P ks fs = true) (hv : Value.okWide P w r b0 t v) (h : DataW.Trod enc P w base spare held t v d pl) :
    ∃ a : Nat → Int, v = .agg (srow ks (fun _ => a) 0) ∧ WfS ks 1 (fun _ => a) := by
  obtain ⟨hsz, hf⟩ := intFields_of hfi
  obtain ⟨cs, rfl, hs⟩ := okWide_struct he hv
  obtain ⟨fuel, hfu⟩ := h
  obtain ⟨ys, n2, _, _, _, hyl, hfl⟩ := DataW.trod_struct he hfu
  have key : ∀ j, ∃ k : Int, j < ks.length → cs[j]? = some (.int (ks.getD j .i64) k) ∧ (Lit.int (ks.getD j .i64) k).wf = true := fun j => by
    by_cases hj : j < ks.length
    · have hjf : j < fs.size := by omega
      have hfj : fs[j]? = some fs[j] := Array.getElem?_eq_getElem hjf
      obtain ⟨ho, hc1, hu⟩ := hf j _ hfj
      have h1 := hfl j _ hfj
      rw [ho, hc1, List.getElem?_eq_getElem (by omega)] at h1
      obtain ⟨k, e1, e2⟩ := part_int hu h1
      exact ⟨k, fun _ => ⟨by simpa [Value.cells] using e1, e2⟩⟩
    · exact ⟨0, fun h => absurd h hj⟩
  obtain ⟨a, ha⟩ : ∃ a : Nat → Int, ∀ j, j < ks.length → cs[j]? = some (.int (ks.getD j .i64) (a j)) ∧ (Lit.int (ks.getD j .i64) (a j)).wf = true := ⟨fun j => Classical.choose (key j), fun j => Classical.choose_spec (key j)⟩
  refine ⟨a, ?_, fun i _ j hj => (ha j hj).2⟩
  congr 1
  apply Array.ext_getElem?
  intro j
  by_cases hj : j < ks.length
  · rw [(ha j hj).1, srow_get _ _ _ _ hj]; rfl
  · rw [Array.getElem?_eq_none (by omega), Array.getElem?_eq_none (by rw [srow_size]; omega)]
end Go.Proofs.YtaioflkonpommaaDoor
