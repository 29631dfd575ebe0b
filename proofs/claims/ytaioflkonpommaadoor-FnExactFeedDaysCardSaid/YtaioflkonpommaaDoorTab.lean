/-
  The table mostOfFlock, from what a row's list says of it.
-/
import Derived.Test.YtaioflkonpommaaDoorFlkM
import Derived.Test.YtaioflkonpommaaDoorCoreB
import Derived.Test.YtaioflkonpommaaDoorRows
import Derived.LaidMore
import Derived.OpenVars
import Derived.ProofKit
import Derived.Stop.LaidErr
namespace Go.Proofs.YtaioflkonpommaaDoor
open Go Go.RowKit Go.WideShapes Go.ChangeShapes

theorem laid_ints {H : Type} {enc : TypeId × Value → H} {P : Program} {w : World} {base : Nat} {spare : Nat → Bool} {held : Bool} {t e : TypeId} {n fuel : Nat} {q : IntKind} {cs : List Value} {ns : List Int} {pl : List MemPlace}
    (hu : P.underlying t = some (.array n e)) (he : P.underlying e = some (.int q)) (hce : P.cellsOf e = 1) (hn : ns.length = n) (h : DataW.trod enc P w base spare held fuel t cs = some (.agg (ns.map fun k => .lit (.int q k)), pl)) :
    ∀ (i : Nat) (k : Int), ns[i]? = some k → cs[i]? = some (.int q k) := by
  intro i k hk
  obtain ⟨xs, m, _, hx, _, hl, hel⟩ := DataW.trod_array hu h
  simp only [Prod.mk.injEq, DataW.agg.injEq] at hx
  have hi : i < n := by rw [← hn]; exact (List.getElem?_eq_some_iff.1 hk).1
  have h1 := hel i hi
  rw [hce, Nat.mul_one, List.getElem?_eq_getElem (by omega)] at h1
  obtain ⟨k', e1, e2, _⟩ := DataW.trod_int he h1
  have e3 : ((cs.drop i).take 1)[0]? = some (.int q k') := by rw [e1]; rfl
  have e4 : cs[i]? = some (.int q k') := by simpa using e3
  have e5 : (xs.map (·.1))[i]? = some (.lit (.int q k')) := by
    rw [List.getElem?_map, List.getElem?_eq_getElem (by omega), e2]; rfl
  rw [← hx.1, List.getElem?_map, hk] at e5
  simp only [Option.map_some, Option.some.injEq, DataW.lit.injEq, Lit.int.injEq, true_and] at e5
  rw [e4, e5]

abbrev tabName : String := "loop.example/g01338/impl.mostOfFlock"
theorem tab_of {W : World} {rest : List (String × DataW Unit)} {ps : List MemPlace} (h : DataW.LaidVars Tryd.prog W ((tabName, Rows.laid_loop_example_g01338_impl_mostOfFlock) :: rest) ps) : TabAt W := by
  obtain ⟨g0, t0, cs0, f0, p0, q0, hg0, ht0, hv0, hd0, _, _⟩ := h
  obtain rfl : 8 = g0 := Option.some.inj ((show Tryd.prog.globalNamed tabName = some 8 by kernel_rfl).symm.trans hg0)
  obtain rfl : 162 = t0 := Option.some.inj ((show (Tryd.prog.globals[8]?).map (·.type) = some 162 by kernel_rfl).symm.trans ht0)
  have key := laid_ints (ns := [99, 200, 20, 1000, 200, 2]) Tryd.underlying162 Tryd.underlying2 (by kernel_rfl) rfl hd0
  have cell : ∀ (i : Nat) (k : Int), ([99, 200, 20, 1000, 200, 2] : List Int)[i]? = some k → W.cell? ⟨8, i, none⟩ = some (.int .i64 k) := fun i k hk => by
    rw [World.var?_cell hg0 hv0 i]
    simpa using key i k hk
  exact ⟨cell 0 _ rfl, cell 1 _ rfl, cell 2 _ rfl, cell 3 _ rfl, cell 4 _ rfl, cell 5 _ rfl⟩
theorem tabAt {W : World} {rest : List (String × DataW Unit)} (h : laidMet Tryd.prog ((tabName, Rows.laid_loop_example_g01338_impl_mostOfFlock) :: rest) W) : TabAt W := by
  obtain ⟨ps, hv, _, _⟩ := h
  exact tab_of hv
end Go.Proofs.YtaioflkonpommaaDoor
