/-
  An operation of a region that drew its order whose value is told by what it reads: a move, an extract of an answer that is known only when it comes.
-/
import Derived.Test.YtaioflkonpommaaDoorCoreB
namespace Go.Proofs.YtaioflkonpommaaDoor
open Go Go.RowKit
/-- It yields what this makes of the first value that it reads. -/
def dR (F : Value → Value) : OpD := fun vs v _ _ _ => v = F (vs.getD 0 undef)
theorem stay_R {F : Value → Value} : StayD (dR F) := fun _ _ _ _ _ _ h _ _ => h
/-- A component of a tuple. -/
def tupAt (i : Nat) : Value → Value
  | .tuple xs => xs.getD i undef
  | _ => undef
section
variable {P : Program} {ops : Array Oper} {C : World → Prop} {l : List OpD} {Q : Act → Left → Prop} {o : Oper} {rest : List Oper} {k : Nat} {a : Act} {g : Left}
theorem rel_read (F : Value → Value) (v0 : Value) (hl : l[k]? = some (dR F)) (hF : v0 = F ((readBy o a).getD 0 undef)) (hw : Region.wanted o (yielded ops a.tmps) = true) (h1 : ∀ w, C w → (execOp a.eval o).run P w = .ok (.value v0) w)
    (h2 : ∀ x, wpRel P ops C (DL l) Q rest (k + 1) (a.put o.dst v0) (g.upd k x)) : wpRel P ops C (DL l) Q (o :: rest) k a g :=
  rel_step hw (goes_value v0 h1 (fun w _ => by rw [DL_at hl]; exact hF)) (fun v lo hi _ ⟨w, _, h⟩ => by
    rw [DL_at hl] at h
    have h' : v = F ((readBy o a).getD 0 undef) := h
    rw [← hF] at h'
    subst h'
    exact h2 _)
end
end Go.Proofs.YtaioflkonpommaaDoor
