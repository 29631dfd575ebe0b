/-
  Single cells, conversions and guarded steps in drawn regions; rows of truth values.
-/
import Derived.Test.YtljlbdnlcibhfaaDoorRegM
import Derived.Test.YtljlbdnlcibhfaaDoorFld
namespace Go.Proofs.YtljlbdnlcibhfaaDoor
open Go Go.RowKit

section
variable {P : Program} {ops : Array Oper} {C : World → Prop} {l : List OpD} {Q : Act → Left → Prop} {o : Oper} {rest : List Oper} {k : Nat} {a : Act} {g : Left}
/-- A cell that is read. -/
theorem rel_cell (ty : TypeId) (x : Operand) (ho : o.op = .load ty x) (b off : Nat) (hx : a.eval x = .pointer (some ⟨b, off, none⟩)) (v : Value) (hl : l[k]? = some (dV v)) (hw : Region.wanted o (yielded ops a.tmps) = true)
    (hr : ∀ w, w.cell? ⟨b, off, none⟩ = some v → (Instr.loadAt ty (.pointer (some ⟨b, off, none⟩))).run P w = .ok v w) (hc : ∀ w, C w → w.cell? ⟨b, off, none⟩ = some v)
    (h2 : ∀ x, wpRel P ops C (DL l) Q rest (k + 1) (a.put o.dst v) (g.upd k x)) : wpRel P ops C (DL l) Q (o :: rest) k a g :=
  rel_val _ hl hw (fun w hw' => by
    unfold execOp
    simp only [ho, hx, Sem.run_bind, hr w (hc w hw'), Result.andThen_ok, Sem.run_pure]) h2
end
theorem load_i16 (b off : Nat) (n : Int) (w : World) (c : w.cell? ⟨b, off, none⟩ = some (.int .i16 n)) : (Instr.loadAt 24 (.pointer (some ⟨b, off, none⟩))).run Tryd.prog w = .ok (.int .i16 n) w := by
  simp [go_sem, c]
end Go.Proofs.YtljlbdnlcibhfaaDoor
