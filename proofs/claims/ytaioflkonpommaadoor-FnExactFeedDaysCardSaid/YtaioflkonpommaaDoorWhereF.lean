/-
  The cells that a method value wants: cellsWhere, by what the method answers for each cell.
-/
import Derived.Test.YtaioflkonpommaaDoorCoreD
namespace Go.Proofs.YtaioflkonpommaaDoor
open Go Go.RowKit Go.Shelf
attribute [local go_sem] Oper.semAt_some

theorem run_callFirst {P : Program} {o : Oper} {a : Act} {f : FuncId} {t : Operand} {first caps : Array Value} {xs : Array Operand} {tys : Array TypeId} (ho : o.op = .call { callee := .value t, args := xs, argTypes := tys }) (ht : a.eval t = .func (.func f) first caps) (vs : Array Value) (hvs : first.toList ++ xs.toList.map a.eval ++ caps.toList = vs.toList)
    (he : ∀ (args : Array Value) (w : World), (callFunc f args).run P w = .ok (.enter f args) w) (w : World) : (execOp a.eval o).run P w = .ok (.enter f vs) w := by
  obtain rfl : first ++ xs.map a.eval ++ caps = vs := Array.ext' (by rw [Array.toList_append, Array.toList_append, Array.toList_map]; exact hvs)
  unfold execOp
  simp only [ho, resolve, ht]
  simp [go_sem, invoke, he]
theorem callFirstIn {F : Fence} {n : Nat} {P : Program} {ops : Array Oper} {Q : Exit → Act → World → Prop} {rest : List Oper} {op : Oper} {a : Act} {w : World} (hF : ∀ k, F.fn k) (hdep : F.depth.isSome = false) (hgd : op.guard = none) {f : FuncId} {t : Operand} {first caps : Array Value} {xs : Array Operand} {tys : Array TypeId} (ho : op.op = .call { callee := .value t, args := xs, argTypes := tys }) (ht : a.eval t = .func (.func f) first caps) (vs : Array Value) (hvs : first.toList ++ xs.toList.map a.eval ++ caps.toList = vs.toList)
    (he : ∀ (args : Array Value) (w : World), (callFunc f args).run P w = .ok (.enter f args) w) (v0 : Value) (R : World → Prop) (hc : CallsIn F (n - 1) P f vs w (fun e w' => e = .returned v0 ∧ R w'))
    (h : ∀ w', R w' → wpListIn F n P ops Q rest (a.put op.dst v0) w') : wpListIn F n P ops Q (op :: rest) a w := by
  have hw : Region.wanted op (yielded ops a.tmps) = true := by simp [Region.wanted, hgd]
  unfold wpListIn
  rw [if_pos hw]
  unfold Oper.wpIn
  refine ⟨fun f' _ => hF f', ?_⟩
  rw [semAt_plain F.round a.eval op (fun c e => by rw [ho] at e; cases e), run_callFirst ho ht vs hvs he w, Oper.uponIn_enter]
  refine ⟨fun h => (by rw [hdep] at h; cases h), hc.mono fun e w2 ⟨he, hr⟩ => ?_⟩
  subst he
  exact h _ hr
end Go.Proofs.YtaioflkonpommaaDoor
