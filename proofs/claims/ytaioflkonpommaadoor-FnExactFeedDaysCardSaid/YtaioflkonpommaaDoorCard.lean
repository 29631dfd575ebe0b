/-
  What stands round a walk whose row lists the program's sentinels: the condition opened, the variables read again, the witness.
-/
import Derived.Test.YtaioflkonpommaaDoorSent
import Derived.Test.YtaioflkonpommaaDoorCoreC
import Derived.Test.YtaioflkonpommaaDoorRows
import Derived.ProofKit
import Derived.LaidMore
import Derived.OpenShut
import Derived.Stop.Joined
import Derived.ChangeOld
import Derived.Below
import Derived.MakeChecks
namespace Go.Proofs.YtaioflkonpommaaDoor
open Go Go.ChangeShapes Go.WideShapes Go.ChangeAt Go.RowKit

theorem own : ownKnob Tryd.prog.godebug = none := by kernel_rfl
theorem laidOut : laidOutB Tryd.prog = true := by kernel_rfl
/-- The sentinels' names and texts, by their codes from 1 on. -/
def sentNames : List (String × List UInt8) := [("loop.example/g01338/impl.errInvalid", [105, 110, 118, 97, 108, 105, 100]), ("loop.example/g01338/impl.errRange", [114, 97, 110, 103, 101]), ("loop.example/g01338/impl.errLimit", [108, 105, 109, 105, 116]), ("loop.example/g01338/impl.errState", [115, 116, 97, 116, 101]), ("loop.example/g01338/impl.errSyntax", [115, 121, 110, 116, 97, 120]), ("loop.example/g01338/impl.errNotFound", [110, 111, 116, 102, 111, 117, 110, 100]), ("loop.example/g01338/impl.errBudget", [98, 117, 100, 103, 101, 116]), ("loop.example/g01338/impl.errProof", [112, 114, 111, 111, 102])]
def laidSents : List (String × DataW Unit) := sentNames.map (fun x => (x.1, DataW.iface "*errors.errorString" (.ptr (.agg [.lit (.string x.2)]))))
theorem starES : "*" ++ "errors.errorString" = "*errors.errorString" := by decide
theorem rowES (u : TypeId) (h : Tryd.prog.typeName? 3 u = some "*errors.errorString") : u = 167 :=
  typeName_ptr_named (nm := "errors.errorString") (by rw [starES]; kernel_rfl) (by kernel_rfl) (by decide) u (by rw [starES]; exact h)

/-- Each sentinel's variable, by its code. -/
structure SentVars (W : World) (A : Nat → Addr) : Prop where
  sents : Sents W A
  var : ∀ (k : Nat) (x : String × List UInt8), sentNames[k]? = some x → W.var? Tryd.prog x.1 = some #[errVal (A (k + 1))]
  text : ∀ (k : Nat) (x : String × List UInt8), sentNames[k]? = some x → W.cell? (A (k + 1)) = some (.string ⟨x.2.toArray⟩)
theorem sentGlobal : ∀ x ∈ sentNames, ∃ g, Tryd.prog.globalNamed x.1 = some g ∧ (Tryd.prog.globals[g]?).map (·.type) = some 79 := by
  intro x hx
  simp only [sentNames, List.mem_cons, List.mem_nil_iff, or_false] at hx
  rcases hx with rfl | rfl | rfl | rfl | rfl | rfl | rfl | rfl
  · exact ⟨2, by kernel_rfl, by kernel_rfl⟩
  · exact ⟨1, by kernel_rfl, by kernel_rfl⟩
  · exact ⟨4, by kernel_rfl, by kernel_rfl⟩
  · exact ⟨0, by kernel_rfl, by kernel_rfl⟩
  · exact ⟨5, by kernel_rfl, by kernel_rfl⟩
  · exact ⟨3, by kernel_rfl, by kernel_rfl⟩
  · exact ⟨6, by kernel_rfl, by kernel_rfl⟩
  · exact ⟨7, by kernel_rfl, by kernel_rfl⟩
theorem sentVars {W : World} {rest : List (String × DataW Unit)} (h : laidMet Tryd.prog (laidSents ++ rest) W) : ∃ A, SentVars W A := by
  obtain ⟨ps, hv, hnd, hrows⟩ := h
  obtain ⟨av, hl, _, hdis, hat⟩ := sents_of_vars (P := Tryd.prog) Tryd.underlying79 rowES Tryd.underlying167 Tryd.underlying193 rfl rfl Tryd.underlying9 (by kernel_rfl) (by kernel_rfl) sentNames rest ps hv sentGlobal hrows hnd
  have hl8 : av.length = 8 := hl
  have at' : ∀ (k : Nat) (x : String × List UInt8), sentNames[k]? = some x → SentAt Tryd.prog W 167 x.1 x.2 (av.getD k default) := fun k x hx => by
    have hk : k < av.length := by
      have := (List.getElem?_eq_some_iff.1 hx).1
      rw [hl]; exact this
    refine hat k x _ hx ?_
    rw [List.getD_eq_getElem?_getD, List.getElem?_eq_getElem hk]; rfl
  have cell : ∀ (k g : Nat) (x : String × List UInt8), sentNames[k]? = some x → Tryd.prog.globalNamed x.1 = some g → W.cell? ⟨g, 0, none⟩ = some (errVal (av.getD k default)) := fun k g x hx hg => by
    simpa using World.var?_cell hg (at' k x hx).var 0
  refine ⟨fun k => av.getD (k - 1) default, ⟨cell 0 _ _ rfl (by kernel_rfl), cell 1 _ _ rfl (by kernel_rfl), cell 2 _ _ rfl (by kernel_rfl), cell 3 _ _ rfl (by kernel_rfl), cell 4 _ _ rfl (by kernel_rfl), cell 5 _ _ rfl (by kernel_rfl), cell 6 _ _ rfl (by kernel_rfl), cell 7 _ _ rfl (by kernel_rfl), ?_, ?_⟩, fun k x hx => (at' k x hx).var, fun k x hx => ?_⟩
  · intro k h1 h8
    have hk : k - 1 < sentNames.length := by show k - 1 < 8; omega
    exact (at' (k - 1) _ (List.getElem?_eq_getElem hk)).blk
  · intro i j h1 h8 g1 g8 hij he
    have hi : i - 1 < av.length := by omega
    have hj : j - 1 < av.length := by omega
    have e1 : av.getD (i - 1) default = av[i - 1] := by rw [List.getD_eq_getElem?_getD, List.getElem?_eq_getElem hi]; rfl
    have e2 : av.getD (j - 1) default = av[j - 1] := by rw [List.getD_eq_getElem?_getD, List.getElem?_eq_getElem hj]; rfl
    rw [e1, e2] at he
    have := (List.getElem_inj hdis).1 he
    omega
  · obtain ⟨s, h1, h2, _⟩ := (at' k x hx).cell
    have : s = ⟨x.2.toArray⟩ := by obtain ⟨d⟩ := s; congr 1; apply Array.ext'; simpa using h2
    rw [← this]; exact h1
theorem SentVars.later {W W' : World} {A : Nat → Addr} (h : SentVars W A) (hb : Below W.heap.size W W') : SentVars W' A :=
  ⟨h.sents.later hb, fun k x hx => var?_below (h.var k x hx) hb, fun k x hx => cell_later (h.text k x hx) hb⟩

/-- Named sentinels, read as tokens. -/
theorem trodSents {H : Type} (enc : TypeId × Value → H) {W : World} {A : Nat → Addr} (S : SentVars W A) (sp : Nat → Bool) : ∀ (l : List (Nat × Nat × String × List UInt8)) (ns : List String) (ds : List (DataW H)) (qs : List MemPlace),
    (∀ x ∈ l, sentNames[x.1]? = some x.2.2 ∧ Tryd.prog.globalNamed x.2.2.1 = some x.2.1) →
    DataW.TrodVars enc Tryd.prog W sp ns ds qs → DataW.TrodVars enc Tryd.prog W sp (l.map (fun x => x.2.2.1) ++ ns) (l.map (fun x => tok enc (errVal (A (x.1 + 1)))) ++ ds) (l.map (fun x => MemPlace.cell x.2.1 0) ++ qs)
  | [], _, _, _, _, h => h
  | (k, g, n, t) :: l, ns, ds, qs, hx, h => by
    obtain ⟨h1, h2⟩ := hx (k, g, n, t) (List.mem_cons_self ..)
    obtain ⟨g', hg', ht'⟩ := sentGlobal (n, t) (List.mem_of_getElem? h1)
    obtain rfl := Option.some.inj (h2.symm.trans hg')
    exact ⟨g, 79, #[errVal (A (k + 1))], 1, [], _, h2, ht', S.var k (n, t) h1, trod_held (v := errVal (A (k + 1))) Tryd.underlying79 trivial 0, trodSents enc S sp l ns ds qs (fun x hx' => hx x (List.mem_cons_of_mem _ hx')) h, rfl⟩
end Go.Proofs.YtaioflkonpommaaDoor
