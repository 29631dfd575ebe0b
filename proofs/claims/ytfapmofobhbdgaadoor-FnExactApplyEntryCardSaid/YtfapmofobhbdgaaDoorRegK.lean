/-
  Drawn regions in which a call reads what an earlier call has made.
-/
import Derived.Test.YtfapmofobhbdgaaDoorRegM
import Derived.Test.YtfapmofobhbdgaaDoorEdge
namespace Go.Proofs.YtfapmofobhbdgaaDoor
open Go Go.RowKit

section
variable {P : Program} {ops : Array Oper} {C : World → Prop} {l : List OpD} {Q : Act → Left → Prop} {o : Oper} {rest : List Oper} {k : Nat} {a : Act} {g : Left}
/-- A call that reads what the operation k0 has left. -/
theorem rel_callK (k0 : Nat) (v0 : Value) (f : FuncId) (args : Array Value) (hl : l[k]? = some (dV v0)) (hw : Region.wanted o (yielded ops a.tmps) = true) {xs : Array Operand} {tys : Array TypeId} (ho : o.op = .call { callee := .value (.func f), args := xs, argTypes := tys }) (hvs : xs.toList.map a.eval = args.toList) (he : ∀ (args : Array Value) (w : World), (callFunc f args).run P w = .ok (.enter f args) w)
    {ok : Oper} {d : Tmp} {x : Nat × Nat × (World → Prop)} (h0 : ops[k0]? = some ok) (hd : ok.dst = some d) (hin : (o.looksAt ops).contains d = true) (hx : g k0 = some x)
    (hc : ∀ w, C w → x.2.2 w → Calls P f args w (fun e w' => e = .returned v0 ∧ Below w.heap.size w w'))
    (h2 : ∀ x, wpRel P ops C (DL l) Q rest (k + 1) (a.put o.dst v0) (g.upd k x)) : wpRel P ops C (DL l) Q (o :: rest) k a g :=
  rel_stepF hw (fun w hw' hk => by
    rw [run_callOp ho args hvs he w]
    exact ⟨rfl, (hc w hw' (hk k0 ok d x h0 hd (by simpa using hin) hx)).mono (fun e w' h => ⟨v0, h.1, h.2, by rw [DL_at hl]; rfl⟩)⟩) (fun v lo hi _ ⟨w, _, h⟩ => by rw [DL_at hl] at h; cases h; exact h2 _)
/-- The same of two. -/
theorem rel_callK2 (k0 k1 : Nat) (v0 : Value) (f : FuncId) (args : Array Value) (hl : l[k]? = some (dV v0)) (hw : Region.wanted o (yielded ops a.tmps) = true) {xs : Array Operand} {tys : Array TypeId} (ho : o.op = .call { callee := .value (.func f), args := xs, argTypes := tys }) (hvs : xs.toList.map a.eval = args.toList) (he : ∀ (args : Array Value) (w : World), (callFunc f args).run P w = .ok (.enter f args) w)
    {ok ok' : Oper} {d d' : Tmp} {x x' : Nat × Nat × (World → Prop)} (h0 : ops[k0]? = some ok) (hd : ok.dst = some d) (hin : (o.looksAt ops).contains d = true) (hx : g k0 = some x)
    (h0' : ops[k1]? = some ok') (hd' : ok'.dst = some d') (hin' : (o.looksAt ops).contains d' = true) (hx' : g k1 = some x')
    (hc : ∀ w, C w → x.2.2 w → x'.2.2 w → Calls P f args w (fun e w' => e = .returned v0 ∧ Below w.heap.size w w'))
    (h2 : ∀ x, wpRel P ops C (DL l) Q rest (k + 1) (a.put o.dst v0) (g.upd k x)) : wpRel P ops C (DL l) Q (o :: rest) k a g :=
  rel_stepF hw (fun w hw' hk => by
    rw [run_callOp ho args hvs he w]
    exact ⟨rfl, (hc w hw' (hk k0 ok d x h0 hd (by simpa using hin) hx) (hk k1 ok' d' x' h0' hd' (by simpa using hin') hx')).mono (fun e w' h => ⟨v0, h.1, h.2, by rw [DL_at hl]; rfl⟩)⟩) (fun v lo hi _ ⟨w, _, h⟩ => by rw [DL_at hl] at h; cases h; exact h2 _)
/-- A call that reads what the operation k0 has left, and whose answer is told by what holds of it. -/
theorem rel_callKP (k0 : Nat) (p : Value → Nat → Nat → World → Prop) (f : FuncId) (args : Array Value) (hl : l[k]? = some (dP p)) (hw : Region.wanted o (yielded ops a.tmps) = true) {xs : Array Operand} {tys : Array TypeId} (ho : o.op = .call { callee := .value (.func f), args := xs, argTypes := tys }) (hvs : xs.toList.map a.eval = args.toList) (he : ∀ (args : Array Value) (w : World), (callFunc f args).run P w = .ok (.enter f args) w)
    {ok : Oper} {d : Tmp} {x : Nat × Nat × (World → Prop)} (h0 : ops[k0]? = some ok) (hd : ok.dst = some d) (hin : (o.looksAt ops).contains d = true) (hx : g k0 = some x)
    (hc : ∀ w, C w → x.2.2 w → Calls P f args w (fun e w' => ∃ v, e = .returned v ∧ Below w.heap.size w w' ∧ ∀ w'', Below w'.heap.size w' w'' → p v w.heap.size w'.heap.size w''))
    (h2 : ∀ v lo hi, lo ≤ hi → (∃ w, C w ∧ p v lo hi w) → wpRel P ops C (DL l) Q rest (k + 1) (a.put o.dst v) (g.upd k (lo, hi, dP p (readBy o a) v lo hi))) : wpRel P ops C (DL l) Q (o :: rest) k a g :=
  rel_stepF hw (fun w hw' hk => by
    rw [run_callOp ho args hvs he w]
    exact ⟨rfl, (hc w hw' (hk k0 ok d x h0 hd (by simpa using hin) hx)).mono (fun e w' h => by
      obtain ⟨v, he, hb, hp⟩ := h
      exact ⟨v, he, hb, by rw [DL_at hl]; exact ⟨hp w' (Below.refl _ _), hp⟩⟩)⟩) (fun v lo hi hle ⟨w, hw', h⟩ => by
    have e : DL l k (readBy o a) v lo hi = dP p (readBy o a) v lo hi := by funext w; exact DL_at hl _ _ _ _ _
    rw [e]
    rw [DL_at hl] at h
    exact h2 v lo hi hle ⟨w, hw', h.1⟩)
end
theorem Mem.init {w0 w : World} {L : List Ent} {e : Ent} (H : Mem w0 w (L ++ [e])) : Mem w0 w L := by
  have key : ∀ i (x : Ent), L[i]? = some x → (L ++ [e])[i]? = some x := fun i x h => by
    rw [List.getElem?_append_left (List.getElem?_eq_some_iff.1 h).1]; exact h
  exact ⟨H.below, fun i x h => H.blk i x (key i x h), fun i j x y hx hy hij => H.apart i j x y (key i x hx) (key j y hy) hij⟩
end Go.Proofs.YtfapmofobhbdgaaDoor
