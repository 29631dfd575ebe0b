/-
  Drawn regions by one walk, over the memory list: the steps of the walk for loads, calls and new blocks.
-/
import Derived.Test.YtpplakfmdjajiaaDoorBase
import Derived.Test.YtpplakfmdjajiaaDoorReg
import Derived.Test.YtpplakfmdjajiaaDoorIn
import Derived.RangeFuncNested
namespace Go.Proofs.YtpplakfmdjajiaaDoor
open Go Go.RowKit

abbrev OpD := Array Value → Value → Nat → Nat → World → Prop
def DL (l : List OpD) : RelD := fun i vs v lo hi w => match l[i]? with | some d => d vs v lo hi w | none => False
def StayD (d : OpD) : Prop := ∀ vs v lo hi w w', d vs v lo hi w → hi ≤ w.heap.size → Below w.heap.size w w' → d vs v lo hi w'
theorem stays_DL {l : List OpD} (h : ∀ d ∈ l, StayD d) : Stays (DL l) := fun i vs v lo hi w w' hd hhi hb => by
  unfold DL at hd ⊢
  cases hi' : l[i]? with
  | none => rw [hi'] at hd; exact hd
  | some d => rw [hi'] at hd; exact h d (List.mem_of_getElem? hi') vs v lo hi w w' hd hhi hb
/-- It yields this value. -/
def dV (v0 : Value) : OpD := fun _ v _ _ _ => v = v0
theorem stay_V {v0 : Value} : StayD (dV v0) := fun _ _ _ _ _ _ h _ _ => h
/-- It yields the address of a new block of these cells. -/
def dB (cs : Array Value) (t : TypeId) : OpD := fun _ v lo hi w => v = .pointer (some ⟨lo, 0, none⟩) ∧ hi = lo + 1 ∧ Blk w lo cs t
theorem stay_B {cs : Array Value} {t : TypeId} : StayD (dB cs t) := fun _ _ _ _ _ _ h _ hb => ⟨h.1, h.2.1, h.2.2.later hb⟩
/-- It yields a value of which this holds, then and later. -/
def dP (p : Value → Nat → Nat → World → Prop) : OpD := fun _ v lo hi w => p v lo hi w ∧ ∀ w', Below w.heap.size w w' → p v lo hi w'
theorem stay_P {p : Value → Nat → Nat → World → Prop} : StayD (dP p) := fun _ _ _ _ _ _ h _ hb => ⟨h.2 _ hb, fun w' hb' => h.2 w' (hb.trans (hb'.mono hb.size))⟩
theorem grows_mem {w0 : World} {L : List Ent} : Grows (fun w' => Mem w0 w' L) := fun _ _ h hb => h.call hb

/-- A call by name. -/
theorem run_callOp {P : Program} {o : Oper} {a : Act} {f : FuncId} {xs : Array Operand} {tys : Array TypeId} (ho : o.op = .call { callee := .value (.func f), args := xs, argTypes := tys }) (vs : Array Value) (hvs : xs.toList.map a.eval = vs.toList)
    (he : ∀ (args : Array Value) (w : World), (callFunc f args).run P w = .ok (.enter f args) w) (w : World) : (execOp a.eval o).run P w = .ok (.enter f vs) w := by
  obtain rfl : xs.map a.eval = vs := Array.ext' (by rw [Array.toList_map]; exact hvs)
  unfold execOp
  simp only [ho, resolve]
  simp [go_sem, invoke, he]
theorem grows_memB {w0 W : World} {L : List Ent} : Grows (fun w' => Mem w0 w' L ∧ Below W.heap.size W w') := fun _ _ h hb => ⟨h.1.call hb, h.2.trans (hb.mono h.2.size)⟩
section
variable {P : Program} {ops : Array Oper} {C : World → Prop} {l : List OpD} {Q : Act → Left → Prop} {o : Oper} {rest : List Oper} {k : Nat} {a : Act} {g : Left}
theorem DL_at {d : OpD} (hl : l[k]? = some d) (vs : Array Value) (v : Value) (lo hi : Nat) (w : World) : DL l k vs v lo hi w = d vs v lo hi w := by unfold DL; rw [hl]
theorem rel_val (v0 : Value) (hl : l[k]? = some (dV v0)) (hw : Region.wanted o (yielded ops a.tmps) = true) (h1 : ∀ w, C w → (execOp a.eval o).run P w = .ok (.value v0) w)
    (h2 : ∀ x, wpRel P ops C (DL l) Q rest (k + 1) (a.put o.dst v0) (g.upd k x)) : wpRel P ops C (DL l) Q (o :: rest) k a g :=
  rel_step hw (goes_value v0 h1 (fun w _ => by rw [DL_at hl]; rfl)) (fun v lo hi _ ⟨w, _, h⟩ => by rw [DL_at hl] at h; cases h; exact h2 _)
/-- A row that is read. -/
theorem rel_load (ty : TypeId) (x : Operand) (ho : o.op = .load ty x) (b off : Nat) (hx : a.eval x = .pointer (some ⟨b, off, none⟩)) (vs : Array Value) (d : TypeDesc) (hl : l[k]? = some (dV (.agg vs))) (hw : Region.wanted o (yielded ops a.tmps) = true)
    (hc : ∀ w, C w → w.rangeAt b off vs.toList) (hu : P.underlying ty = some d) (hd : d.isRow = true) (hi : (P.info? ty).map (·.size) = some vs.size)
    (h2 : ∀ x, wpRel P ops C (DL l) Q rest (k + 1) (a.put o.dst (.agg vs)) (g.upd k x)) : wpRel P ops C (DL l) Q (o :: rest) k a g :=
  rel_val _ hl hw (fun w hw' => by
    unfold execOp
    simp only [ho, hx, Sem.run_bind, run_loadAt_part w b off ty vs d (hc w hw') hu hd hi, Result.andThen_ok, Sem.run_pure]) h2
/-- A call of a Go function, by its contract. -/
theorem rel_call (v0 : Value) (f : FuncId) (args : Array Value) (hl : l[k]? = some (dV v0)) (hw : Region.wanted o (yielded ops a.tmps) = true) {xs : Array Operand} {tys : Array TypeId} (ho : o.op = .call { callee := .value (.func f), args := xs, argTypes := tys }) (hvs : xs.toList.map a.eval = args.toList) (he : ∀ (args : Array Value) (w : World), (callFunc f args).run P w = .ok (.enter f args) w)
    (hc : ∀ w, C w → Calls P f args w (fun e w' => e = .returned v0 ∧ Below w.heap.size w w'))
    (h2 : ∀ x, wpRel P ops C (DL l) Q rest (k + 1) (a.put o.dst v0) (g.upd k x)) : wpRel P ops C (DL l) Q (o :: rest) k a g :=
  rel_step hw (goes_call f args (fun w _ => run_callOp ho args hvs he w) (fun w hw' => (hc w hw').mono (fun e w' h => ⟨v0, h.1, h.2, by rw [DL_at hl]; rfl⟩))) (fun v lo hi _ ⟨w, _, h⟩ => by rw [DL_at hl] at h; cases h; exact h2 _)
/-- A call whose answer is told by what holds of it. -/
theorem rel_callP (p : Value → Nat → Nat → World → Prop) (f : FuncId) (args : Array Value) (hl : l[k]? = some (dP p)) (hw : Region.wanted o (yielded ops a.tmps) = true) {xs : Array Operand} {tys : Array TypeId} (ho : o.op = .call { callee := .value (.func f), args := xs, argTypes := tys }) (hvs : xs.toList.map a.eval = args.toList) (he : ∀ (args : Array Value) (w : World), (callFunc f args).run P w = .ok (.enter f args) w)
    (hc : ∀ w, C w → Calls P f args w (fun e w' => ∃ v, e = .returned v ∧ Below w.heap.size w w' ∧ ∀ w'', Below w'.heap.size w' w'' → p v w.heap.size w'.heap.size w''))
    (h2 : ∀ v lo hi, lo ≤ hi → (∃ w, C w ∧ p v lo hi w) → wpRel P ops C (DL l) Q rest (k + 1) (a.put o.dst v) (g.upd k (lo, hi, dP p (readBy o a) v lo hi))) : wpRel P ops C (DL l) Q (o :: rest) k a g :=
  rel_step hw (goes_call f args (fun w _ => run_callOp ho args hvs he w) (fun w hw' => (hc w hw').mono (fun e w' h => by
    obtain ⟨v, he, hb, hp⟩ := h
    exact ⟨v, he, hb, by rw [DL_at hl]; exact ⟨hp w' (Below.refl _ _), hp⟩⟩))) (fun v lo hi hle ⟨w, hw', h⟩ => by
    have e : DL l k (readBy o a) v lo hi = dP p (readBy o a) v lo hi := by funext w; exact DL_at hl _ _ _ _ _
    rw [e]
    rw [DL_at hl] at h
    exact h2 v lo hi hle ⟨w, hw', h.1⟩)
/-- A new block. -/
theorem rel_alloc (cs : Array Value) (t : TypeId) (hl : l[k]? = some (dB cs t)) (hw : Region.wanted o (yielded ops a.tmps) = true) (hr : ∀ w, (execOp a.eval o).run P w = .ok (.value (.pointer (some ⟨w.heap.size, 0, none⟩))) (w.alloc (.cells cs t)))
    (h2 : ∀ n, wpRel P ops C (DL l) Q rest (k + 1) (a.put o.dst (.pointer (some ⟨n, 0, none⟩))) (g.upd k (n, n + 1, fun w => Blk w n cs t))) : wpRel P ops C (DL l) Q (o :: rest) k a g :=
  rel_step hw (goes_alloc cs t (fun w _ => hr w) (fun w _ => by rw [DL_at hl]; exact ⟨rfl, rfl, Blk.new _ _ _⟩)) (fun v lo hi _ ⟨w, _, h⟩ => by
    rw [DL_at hl] at h
    obtain ⟨rfl, rfl, _⟩ := h
    have e : DL l k (readBy o a) (.pointer (some ⟨lo, 0, none⟩)) lo (lo + 1) = fun w => Blk w lo cs t := by
      funext w
      rw [DL_at hl]
      exact propext ⟨fun h => h.2.2, fun h => ⟨rfl, rfl, h⟩⟩
    rw [e]
    exact h2 lo)
/-- Two rows compared. -/
theorem rel_eql (t t' : TypeId) (x y : Operand) (ho : o.op = .binOp .eql t x y t') (xs ys : Array Value) (hx : a.eval x = .agg xs) (hy : a.eval y = .agg ys) (r : Bool) (hl : l[k]? = some (dV (.bool r))) (hw : Region.wanted o (yielded ops a.tmps) = true)
    (hm : P.eqGuardType P.depth t = false) (hr : ∀ w, (Op.equalIn 10000 t (.agg xs) (.agg ys)).run P w = .ok r w)
    (h2 : ∀ x, wpRel P ops C (DL l) Q rest (k + 1) (a.put o.dst (.bool r)) (g.upd k x)) : wpRel P ops C (DL l) Q (o :: rest) k a g :=
  rel_val _ hl hw (fun w _ => by
    unfold execOp
    simp only [ho, hx, hy]
    rw [Sem.run_bind, run_eql_agg t xs ys r w x y hm (hr w), Result.andThen_ok, Sem.run_pure]) h2
/-- A new block, in the end. -/
theorem Inv.blk {base n : Nat} {g : Left} {w : World} {i : Nat} {cs : Array Value} {t : TypeId} (h : Inv C base g w) (hi : g i = some (n, n + 1, fun w => Blk w n cs t)) : base ≤ n ∧ Blk w n cs t := ⟨(h.fact i _ hi).1, (h.fact i _ hi).2.2.2⟩
end
/-- A block that is none of the list's. -/
theorem Mem.addNew {w0 w : World} {L : List Ent} {n : Nat} {cs : Array Value} {t : TypeId} (H : Mem w0 w L) (hn : w0.heap.size ≤ n) (hne : ∀ (i : Nat) (e : Ent), L[i]? = some e → e.b ≠ n) (hb : Blk w n cs t) : Mem w0 w (L ++ [⟨n, cs, t⟩]) := by
  have key : ∀ i e, (L ++ [⟨n, cs, t⟩])[i]? = some e → (i < L.length ∧ L[i]? = some e) ∨ (i = L.length ∧ e = ⟨n, cs, t⟩) := fun i e h => by
    rw [List.getElem?_append] at h
    split at h
    · exact .inl ⟨by assumption, h⟩
    · rcases hk : i - L.length with _ | k
      · rw [hk] at h; exact .inr ⟨by omega, by simpa using h.symm⟩
      · rw [hk] at h; simp at h
  refine ⟨H.below, fun i e h => ?_, fun i j e e' h h' hij => ?_⟩
  · rcases key i e h with ⟨_, h1⟩ | ⟨_, rfl⟩
    · exact H.blk i e h1
    · exact ⟨hn, hb⟩
  · rcases key i e h with ⟨hi, h1⟩ | ⟨hi, rfl⟩ <;> rcases key j e' h' with ⟨hj, h2⟩ | ⟨hj, rfl⟩
    · exact H.apart i j e e' h1 h2 hij
    · exact hne i e h1
    · exact fun x => hne j e' h2 x.symm
    · omega
/-- The lists' blocks lie before the region's base. -/
theorem Mem.before {w0 w : World} {L : List Ent} (H : Mem w0 w L) : ∀ (i : Nat) (e : Ent), L[i]? = some e → e.b < w.heap.size := fun i e h => (H.blk i e h).2.lt
theorem Inv.mem1 {w0 W w : World} {L : List Ent} {g : Left} {i n : Nat} {cs : Array Value} {t : TypeId} {C : World → Prop} (H : Mem w0 W L) (h : Inv C W.heap.size g w) (hM : Mem w0 w L) (hi : g i = some (n, n + 1, fun w => Blk w n cs t)) : Mem w0 w (L ++ [⟨n, cs, t⟩]) :=
  hM.addNew (Nat.le_trans H.below.size (h.blk hi).1) (fun j e hj => by have := H.before j e hj; have := (h.blk hi).1; omega) (h.blk hi).2
theorem Inv.mem2 {w0 W w : World} {L : List Ent} {g : Left} {i j n m : Nat} {cs ds : Array Value} {t u : TypeId} {C : World → Prop} (H : Mem w0 W L) (h : Inv C W.heap.size g w) (hM : Mem w0 w L) (hi : g i = some (n, n + 1, fun w => Blk w n cs t)) (hj : g j = some (m, m + 1, fun w => Blk w m ds u)) (hij : i ≠ j) : Mem w0 w (L ++ [⟨n, cs, t⟩] ++ [⟨m, ds, u⟩]) := by
  refine (h.mem1 H hM hi).addNew (Nat.le_trans H.below.size (h.blk hj).1) (fun k e hk => ?_) (h.blk hj).2
  rw [List.getElem?_append] at hk
  split at hk
  · have := H.before k e hk; have := (h.blk hj).1; omega
  · rcases hl : k - L.length with _ | q
    · rw [hl] at hk
      have : e = ⟨n, cs, t⟩ := by simpa using hk.symm
      subst this
      have := h.apart i j _ _ hi hj hij
      simp only [] at this ⊢
      omega
    · rw [hl] at hk; simp at hk
end Go.Proofs.YtpplakfmdjajiaaDoor
