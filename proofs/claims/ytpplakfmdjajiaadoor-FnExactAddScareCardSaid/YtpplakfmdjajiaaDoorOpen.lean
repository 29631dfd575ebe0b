/-
  What comes in, opened: rows of integers, fields.
-/
import Derived.Test.YtpplakfmdjajiaaDoorFld
import Derived.ProofKit
import Derived.OpenShut
namespace Go.Proofs.YtpplakfmdjajiaaDoor
open Go Go.RowKit Go.WideShapes Go.ChangeShapes

/-- One integer out of a part of some cells. -/
theorem part_int {H : Type} {enc : TypeId × Value → H} {P : Program} {w : World} {base : Nat} {spare : Nat → Bool} {held : Bool} {m : Nat} {e : TypeId} {q : IntKind} {cs : List Value} {o : Nat} {x : DataW H × List MemPlace}
    (he : P.underlying e = some (.int q)) (hx : DataW.trod enc P w base spare held m e ((cs.drop o).take 1) = some x) : ∃ k, cs[o]? = some (.int q k) ∧ (Lit.int q k).wf = true := by
  obtain ⟨k, h1, _, h3⟩ := DataW.trod_int he hx
  refine ⟨k, ?_, h3⟩
  have : ((cs.drop o).take 1)[0]? = some (.int q k) := by rw [h1]; rfl
  simpa using this

theorem row_ints {H : Type} {enc : TypeId × Value → H} {P : Program} {w : World} {base : Nat} {spare : Nat → Bool} {held : Bool} {t e : TypeId} {n fuel : Nat} {q : IntKind} {cs : List Value} {x : DataW H × List MemPlace}
    (hu : P.underlying t = some (.array n e)) (he : P.underlying e = some (.int q)) (hce : P.cellsOf e = 1) (hx : DataW.trod enc P w base spare held fuel t cs = some x) :
    ∃ f : Nat → Int, (∀ i, i < n → cs[i]? = some (.int q (f i))) ∧ ∀ i, i < n → (Lit.int q (f i)).wf = true := by
  obtain ⟨xs, m, _, _, _, hl, hel⟩ := DataW.trod_array hu hx
  have key : ∀ i, ∃ k : Int, i < n → cs[i]? = some (.int q k) ∧ (Lit.int q k).wf = true := fun i => by
    by_cases hi : i < n
    · have h := hel i hi
      rw [hce, Nat.mul_one, List.getElem?_eq_getElem (by omega)] at h
      obtain ⟨k, h1, h2⟩ := part_int he h
      exact ⟨k, fun _ => ⟨h1, h2⟩⟩
    · exact ⟨0, fun h => absurd h hi⟩
  exact ⟨fun i => Classical.choose (key i), fun i hi => (Classical.choose_spec (key i) hi).1, fun i hi => (Classical.choose_spec (key i) hi).2⟩

theorem okWide_row {P : Program} {w : World} {r : Reach} {base : Nat} {t e : TypeId} {n : Nat} {v : Value} (hu : P.underlying t = some (.array n e)) (h : Value.okWide P w r base t v) : ∃ cs, v = .agg cs ∧ cs.size = P.cellsOf t := by
  simp only [Value.okWide, hu] at h
  obtain ⟨cs, h1, h2, _⟩ := h
  exact ⟨cs, h1, h2⟩

theorem open_row {H : Type} {enc : TypeId × Value → H} {P : Program} {w : World} {b0 base : Nat} {r : Reach} {spare : Nat → Bool} {held : Bool} {t e : TypeId} {n : Nat} {q : IntKind} {v : Value} {d : DataW H} {p : List MemPlace}
    (hu : P.underlying t = some (.array n e)) (he : P.underlying e = some (.int q)) (hce : P.cellsOf e = 1) (hct : P.cellsOf t = n)
    (hv : Value.okWide P w r b0 t v) (h : DataW.Trod enc P w base spare held t v d p) : ∃ f : Nat → Int, v = .agg (acells q n f) ∧ ∀ i, i < n → (Lit.int q (f i)).wf = true := by
  obtain ⟨cs, rfl, hs⟩ := okWide_row hu hv
  obtain ⟨fuel, hf⟩ := h
  obtain ⟨f, h1, h2⟩ := row_ints hu he hce hf
  have e := acells_ext (k := q) (n := n) (f := f) (cs := cs) (by rw [hs, hct]) (fun i hi => by have := h1 i hi; simpa [Value.cells] using this)
  exact ⟨f, by rw [e], h2⟩

theorem open_field {H : Type} {enc : TypeId × Value → H} {P : Program} {w : World} {b0 base : Nat} {r : Reach} {spare : Nat → Bool} {held : Bool} {t t8 tK eK tS eS : TypeId} {fs : Array Field} {v : Value} {d : DataW H} {p : List MemPlace}
    (hu : P.underlying t = some (.struct fs)) (hfs : fs.toList.map (fun x => (x.type, x.offset)) = [(t8, 0), (t8, 1), (tK, 2), (tS, 102)]) (h8 : P.underlying t8 = some (.int .i8)) (hK : P.underlying tK = some (.array 100 eK)) (heK : P.underlying eK = some (.int .u8))
    (hS : P.underlying tS = some (.array 100 eS)) (heS : P.underlying eS = some (.int .i16)) (hct : P.cellsOf t = 202) (hc8 : P.cellsOf t8 = 1) (hcK : P.cellsOf tK = 100) (hcS : P.cellsOf tS = 100) (hceK : P.cellsOf eK = 1) (hceS : P.cellsOf eS = 1)
    (hv : Value.okWide P w r b0 t v) (h : DataW.Trod enc P w base spare held t v d p) : ∃ f : Fd, v = .agg (fcells f) ∧ f.Wf := by
  obtain ⟨cs, rfl, hs⟩ := okWide_struct hu hv
  obtain ⟨fuel, hf⟩ := h
  obtain ⟨xs, m, _, _, _, hl, hel⟩ := DataW.trod_struct hu hf
  obtain ⟨l⟩ := fs
  have hlen : l.length = 4 := by have := congrArg List.length hfs; simpa using this
  match l, hlen, hfs, hl, hel with
  | [a, b, c, e], _, hfs, hl, hel =>
    simp only [List.map_cons, List.map_nil, List.cons.injEq, Prod.mk.injEq, and_true] at hfs
    obtain ⟨⟨t0, o0⟩, ⟨t1, o1⟩, ⟨t2, o2⟩, ⟨t3, o3⟩⟩ := hfs
    have hx : ∀ i, i < 4 → ∃ y, xs[i]? = some y := fun i hi => by
      have : i < xs.length := by rw [hl]; exact hi
      exact ⟨_, List.getElem?_eq_getElem this⟩
    obtain ⟨y0, e0⟩ := hx 0 (by omega)
    obtain ⟨y1, e1⟩ := hx 1 (by omega)
    obtain ⟨y2, e2⟩ := hx 2 (by omega)
    obtain ⟨y3, e3⟩ := hx 3 (by omega)
    have q0 := hel 0 a rfl
    have q1 := hel 1 b rfl
    have q2 := hel 2 c rfl
    have q3 := hel 3 e rfl
    rw [t0, o0, hc8, e0] at q0
    rw [t1, o1, hc8, e1] at q1
    rw [t2, o2, hcK, e2] at q2
    rw [t3, o3, hcS, e3] at q3
    obtain ⟨W, g0, w0⟩ := part_int h8 q0
    obtain ⟨Hh, g1, w1⟩ := part_int h8 q1
    obtain ⟨K, g2, w2⟩ := row_ints hK heK hceK q2
    obtain ⟨S, g3, w3⟩ := row_ints hS heS hceS q3
    have look : ∀ {o n i : Nat} {x : Value}, i < n → (((Value.agg cs).cells.toList.drop o).take n)[i]? = some x → cs[o + i]? = some x := fun {o n i x} hi h => by
      rw [List.getElem?_take, if_pos hi, List.getElem?_drop] at h
      simpa [Value.cells] using h
    have ec : cs = fcells ⟨W, Hh, K, S⟩ := fcells_ext (by rw [hs, hct]) (by simpa [Value.cells] using g0) (by simpa [Value.cells] using g1) (fun i hi => look hi (g2 i hi)) (fun i hi => look hi (g3 i hi))
    exact ⟨_, by rw [ec], ⟨bounds_i8 w0, bounds_i8 w1, fun i hi => bounds_u8 (w2 i hi), fun i hi => bounds_i16 (w3 i hi)⟩⟩
end Go.Proofs.YtpplakfmdjajiaaDoor
