/-
  Single cells, conversions and guarded steps in drawn regions; rows of truth values.
-/
import Derived.Test.YtpplakfmdjajiaaDoorRegM
import Derived.Test.YtpplakfmdjajiaaDoorFld
import Derived.Test.YtpplakfmdjajiaaDoorIn
import Derived.RangeFuncCalls
namespace Go.Proofs.YtpplakfmdjajiaaDoor
open Go Go.RowKit

section
variable {P : Program} {ops : Array Oper} {C : World → Prop} {l : List OpD} {Q : Act → Left → Prop} {o : Oper} {rest : List Oper} {k : Nat} {a : Act} {g : Left}
/-- A cell that is read. -/
theorem rel_cell (ty : TypeId) (x : Operand) (ho : o.op = .load ty x) (b off : Nat) (hx : a.eval x = .pointer (some ⟨b, off, none⟩)) (v : Value) (hl : l[k]? = some (dV v)) (hw : Region.wanted o (yielded ops a.tmps) = true)
    (hr : ∀ w, w.cell? ⟨b, off, none⟩ = some v → (Instr.loadAt ty (.pointer (some ⟨b, off, none⟩))).run P w = .ok v w) (hc : ∀ w, C w → w.cell? ⟨b, off, none⟩ = some v)
    (h2 : ∀ x, wpRel P ops C (DL l) Q rest (k + 1) (a.put o.dst v) (g.upd k x)) : wpRel P ops C (DL l) Q (o :: rest) k a g :=
  rel_val _ hl hw (fun w hw' => by
    unfold execOp
    simp only [ho, hx, Sem.run_bind, hr w (hc w hw'), Result.andThen_ok, Sem.run_pure]) h2
end
/-- A call of a closure that a slot holds. -/
theorem run_callDyn {P : Program} {o : Oper} {a : Act} {f : FuncId} {t : Operand} {caps : Array Value} {xs : Array Operand} {tys : Array TypeId} (ho : o.op = .call { callee := .value t, args := xs, argTypes := tys }) (ht : a.eval t = .func (.func f) #[] caps) (vs : Array Value) (hvs : xs.toList.map a.eval ++ caps.toList = vs.toList)
    (he : ∀ (args : Array Value) (w : World), (callFunc f args).run P w = .ok (.enter f args) w) (w : World) : (execOp a.eval o).run P w = .ok (.enter f vs) w := by
  obtain rfl : xs.map a.eval ++ caps = vs := Array.ext' (by rw [Array.toList_append, Array.toList_map]; exact hvs)
  unfold execOp
  simp only [ho, resolve, ht]
  simp [go_sem, invoke, he]
section
variable {P : Program} {ops : Array Oper} {C : World → Prop} {l : List OpD} {Q : Act → Left → Prop} {o : Oper} {rest : List Oper} {k : Nat} {a : Act} {g : Left}
theorem rel_callDyn (v0 : Value) (f : FuncId) (args : Array Value) (hl : l[k]? = some (dV v0)) (hw : Region.wanted o (yielded ops a.tmps) = true) {t : Operand} {caps : Array Value} {xs : Array Operand} {tys : Array TypeId} (ho : o.op = .call { callee := .value t, args := xs, argTypes := tys }) (ht : a.eval t = .func (.func f) #[] caps) (hvs : xs.toList.map a.eval ++ caps.toList = args.toList) (he : ∀ (args : Array Value) (w : World), (callFunc f args).run P w = .ok (.enter f args) w)
    (hc : ∀ w, C w → Calls P f args w (fun e w' => e = .returned v0 ∧ Below w.heap.size w w'))
    (h2 : ∀ x, wpRel P ops C (DL l) Q rest (k + 1) (a.put o.dst v0) (g.upd k x)) : wpRel P ops C (DL l) Q (o :: rest) k a g :=
  rel_step hw (goes_call f args (fun w _ => run_callDyn ho ht args hvs he w) (fun w hw' => (hc w hw').mono (fun e w' h => ⟨v0, h.1, h.2, by rw [DL_at hl]; rfl⟩))) (fun v lo hi _ ⟨w, _, h⟩ => by rw [DL_at hl] at h; cases h; exact h2 _)
end
/-- The same at a plain region's list, within a fence. -/
theorem callDynIn {F : Fence} {n : Nat} {P : Program} {ops : Array Oper} {Q : Exit → Act → World → Prop} {rest : List Oper} {op : Oper} {a : Act} {w : World} (hF : ∀ k, F.fn k) (hdep : F.depth.isSome = false) (hgd : op.guard = none) {f : FuncId} {t : Operand} {caps : Array Value} {xs : Array Operand} {tys : Array TypeId} (ho : op.op = .call { callee := .value t, args := xs, argTypes := tys }) (ht : a.eval t = .func (.func f) #[] caps) (vs : Array Value) (hvs : xs.toList.map a.eval ++ caps.toList = vs.toList)
    (he : ∀ (args : Array Value) (w : World), (callFunc f args).run P w = .ok (.enter f args) w) (v0 : Value) (R : World → Prop) (hc : CallsIn F (n - 1) P f vs w (fun e w' => e = .returned v0 ∧ R w'))
    (h : ∀ w', R w' → wpListIn F n P ops Q rest (a.put op.dst v0) w') : wpListIn F n P ops Q (op :: rest) a w := by
  have hw : Region.wanted op (yielded ops a.tmps) = true := by simp [Region.wanted, hgd]
  unfold wpListIn
  rw [if_pos hw]
  unfold Oper.wpIn
  refine ⟨fun f' _ => hF f', ?_⟩
  rw [semAt_plain F.round a.eval op (fun c e => by rw [ho] at e; cases e), run_callDyn ho ht vs hvs he w, Oper.uponIn_enter]
  refine ⟨fun h => (by rw [hdep] at h; cases h), hc.mono fun e w2 ⟨he, hr⟩ => ?_⟩
  subst he
  exact h _ hr
theorem load_i16 (b off : Nat) (n : Int) (w : World) (c : w.cell? ⟨b, off, none⟩ = some (.int .i16 n)) : (Instr.loadAt 24 (.pointer (some ⟨b, off, none⟩))).run Tryd.prog w = .ok (.int .i16 n) w := by
  simp [go_sem, c]
end Go.Proofs.YtpplakfmdjajiaaDoor
