/-
  A drawn region that loads rows and stores them back as they were: the world stays as it is.
-/
import Derived.Test.YtdjbaajcgipebaaDoorRegM
import Derived.BigQuiet
namespace Go.Proofs.YtdjbaajcgipebaaDoor
open Go Go.RowKit

theorem setRow_same {w : World} {g : Nat} {cs : Array Value} {t : TypeId} (h : Blk w g cs t) : w.setRow g cs = w := by
  have e : (w.setRow g cs).heap = w.heap := by
    apply Array.ext_getElem?
    intro i
    by_cases hi : i = g
    · subst hi
      rw [setRow_heap w i cs cs t _ h]; exact h.symm
    · exact setRow_other w g i cs hi
  show { w with heap := (w.setRow g cs).heap } = w
  rw [e]
section
variable {P : Program} {ops : Array Oper} {C : World → Prop} {Q : Act → Prop} {a : Act} {o : Oper} {rest : List Oper}
theorem quiet_row (ty : TypeId) (x : Operand) (ho : o.op = .load ty x) (b : Nat) (hx : a.eval x = .pointer (some ⟨b, 0, none⟩)) (vs : Array Value) (t : TypeId) (d : TypeDesc) (hw : Region.wanted o (yielded ops a.tmps) = true)
    (hc : ∀ w, C w → Blk w b vs t) (hu : P.underlying ty = some d) (hd : d.isRow = true) (hi : (P.info? ty).map (·.size) = some vs.size)
    (h : wpQuiet P ops C Q rest (a.put o.dst (.agg vs))) : wpQuiet P ops C Q (o :: rest) a :=
  BigFrame.wpQuiet_want hw (fun K hK => ⟨.agg vs, fun w hw' => by
    unfold Oper.quietAt execOp
    simp only [ho, hx, Sem.run_bind, run_loadAt_part w b 0 ty vs d (hc w hw').whole hu hd hi, Result.andThen_ok, Sem.run_pure]
    exact ⟨rfl, rfl⟩, hK _ h⟩)
theorem quiet_store (ty : TypeId) (x y : Operand) (ho : o.op = .store ty x y) (b : Nat) (hx : a.eval x = .pointer (some ⟨b, 0, none⟩)) (vs : Array Value) (hy : a.eval y = .agg vs) (t : TypeId) (hw : Region.wanted o (yielded ops a.tmps) = true)
    (hc : ∀ w, C w → Blk w b vs t) (hi : (P.info? ty).map (·.size) = some vs.size) (h1 : vs.all (·.oneCell') = true)
    (h : wpQuiet P ops C Q rest (a.put o.dst undef)) : wpQuiet P ops C Q (o :: rest) a :=
  BigFrame.wpQuiet_want hw (fun K hK => ⟨undef, fun w hw' => by
    unfold Oper.quietAt execOp
    simp only [ho, hx, hy, Instr.storeAt, Instr.sureAddr, Sem.run_bind, Sem.run_pure, Result.andThen_ok, run_storeVar_row w b t ty vs vs (hc w hw') hi rfl h1, setRow_same (hc w hw')]
    exact ⟨rfl, rfl⟩, hK _ h⟩)
end
end Go.Proofs.YtdjbaajcgipebaaDoor
