/-
  Drawn regions: operations that leave memory of their own (a slice made, an append that grows).
-/
import Derived.Test.YtaioflkonpommaaDoorCoreB
import Derived.Test.YtaioflkonpommaaDoorLstM
import Derived.ArgAppend
namespace Go.Proofs.YtaioflkonpommaaDoor
open Go Go.RowKit
section
variable {P : Program} {ops : Array Oper} {C : World → Prop} {l : List OpD} {Q : Act → Left → Prop} {o : Oper} {rest : List Oper} {k : Nat} {a : Act} {g : Left}
theorem rel_runP (p : Value → Nat → Nat → World → Prop) (hl : l[k]? = some (dP p)) (hw : Region.wanted o (yielded ops a.tmps) = true)
    (hr : ∀ w, C w → ∃ v w', (execOp a.eval o).run P w = .ok (.value v) w' ∧ Below w.heap.size w w' ∧ ∀ w'', Below w'.heap.size w' w'' → p v w.heap.size w'.heap.size w'')
    (h2 : ∀ v lo hi, lo ≤ hi → (∃ w, C w ∧ p v lo hi w) → wpRel P ops C (DL l) Q rest (k + 1) (a.put o.dst v) (g.upd k (lo, hi, dP p (readBy o a) v lo hi))) : wpRel P ops C (DL l) Q (o :: rest) k a g :=
  rel_step hw (fun w hw' => by
    obtain ⟨v, w', hr', hb, hp⟩ := hr w hw'
    rw [hr']
    exact ⟨hb, by rw [DL_at hl]; exact ⟨hp w' (Below.refl _ _), hp⟩⟩) (fun v lo hi hle ⟨w, hw', h⟩ => by
    have e : DL l k (readBy o a) v lo hi = dP p (readBy o a) v lo hi := by funext w; exact DL_at hl _ _ _ _ _
    rw [e]
    rw [DL_at hl] at h
    exact h2 v lo hi hle ⟨w, hw', h.1⟩)
/-- An append to an empty slice with no capacity. -/
theorem rel_append_new (s x : Operand) (t : TypeId) (hop : o.op = Op.call { callee := Callee.builtin Builtin.append, args := #[s, x], argTypes := #[t, t] })
    (e : TypeId) (i : TypeInfo) (z : Value) (size bytes : Nat) (h1 : P.underlying t = some (.slice e)) (h2 : P.info? e = some i) (h3 : i.zero = some z) (h4 : i.size = size) (h5 : i.bytes = bytes) (h6 : z.cells.size = size) (h7 : 0 < size)
    (b : Addr) (hs : a.eval s = .slice (some b) 0 0) (ad : Addr) (m c : Nat) (news : List Value) (hx : a.eval x = .slice (some ad) m c) (hn : news.length = m * size) (hc : ∀ w, C w → ∀ j u, news[j]? = some u → w.cell? (ad.add j) = some u)
    (hm : 0 < m) (b1 : m ≤ maxLen) (b2 : m * bytes ≤ 140737488355328)
    (hl : l[k]? = some (dP (fun v lo _ w => w.ownsRow lo e size v m news))) (hw : Region.wanted o (yielded ops a.tmps) = true)
    (hk : ∀ v lo hi, lo ≤ hi → (∃ w, C w ∧ w.ownsRow lo e size v m news) → wpRel P ops C (DL l) Q rest (k + 1) (a.put o.dst v) (g.upd k (lo, hi, dP (fun v lo _ w => w.ownsRow lo e size v m news) (readBy o a) v lo hi))) : wpRel P ops C (DL l) Q (o :: rest) k a g := by
  refine rel_runP _ hl hw (fun w hw' => ?_) hk
  obtain ⟨v', w', hrun, r1, r2⟩ := run_append_arg_grows (P := P) w t o.type e i z size bytes h1 h2 h3 h4 h5 h6 h7 b 0 0 [] (by simp) (fun j u hj => by simp at hj) ad m c news hn (hc w hw') (by omega) (by rw [Nat.zero_add]; exact b1) (by rw [Nat.zero_add]; exact b2)
  rw [Nat.zero_add, List.nil_append] at r1
  refine ⟨v', w', ?_, (Below.refl w.heap.size w).grown r2 (Nat.le_refl _) (fun k e => by cases e), fun w'' hb => ?_⟩
  · unfold execOp
    simp [hop, resolve, invoke, builtin, hs, hx, hrun, Result.andThen]
  · exact r1.kept (row := none) ⟨hb.os, hb.tape, hb.output, hb.size, fun k hk _ => hb.block k hk⟩ (by cases h : v'.ownBlock with
      | none => exact .inl rfl
      | some q => exact .inr (by simp))
end
end Go.Proofs.YtaioflkonpommaaDoor
