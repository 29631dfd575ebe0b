/-
  Two fields, before and after: the model's code of them, and what is lost.
-/
import Derived.Test.YtddbpbibjiahgaaDoorRowB
import Derived.Test.YtddbpbibjiahgaaDoorCoreA
import Derived.Test.YtddbpbibjiahgaaDoorCoreD
import Derived.Test.YtddbpbibjiahgaaDoorCoreC
import Derived.Test.YtddbpbibjiahgaaDoorTurn
import Derived.Test.YtddbpbibjiahgaaDoorLawh
import Derived.Lib.Hide
import Derived.Outline
import Derived.OwnWalk
namespace Go.Proofs.YtddbpbibjiahgaaDoor
open Go Go.RowKit Go.Shelf
attribute [local go_sem] Oper.semAt_some

/-- The same sizes and kinds. -/
def sameKB (f g : Fd) : Bool := f.W == g.W && f.H == g.H && rowEq 100 f.K g.K
/-- No number has more seeds after than before. -/
def lessB (f g : Fd) : Bool := allTo 100 (fun i => decide (g.S i ≤ f.S i))
def pairOk (f g : Fd) : Bool := okF f && okF g && sameKB f g && lessB f g
def pairCode (f g : Fd) : Int := if (okF f && okF g) = false then 1 else if (sameKB f g && lessB f g) = true then 0 else 4
theorem pairCode_bad {f g : Fd} (h : (okF f && okF g) = false) : pairCode f g = 1 := by unfold pairCode; rw [if_pos h]
theorem pairCode_ok {f g : Fd} (h : (okF f && okF g) = true) (h2 : (sameKB f g && lessB f g) = true) : pairCode f g = 0 := by unfold pairCode; rw [if_neg (by rw [h]; decide), if_pos h2]
theorem pairCode_no {f g : Fd} (h : (okF f && okF g) = true) (h2 : (sameKB f g && lessB f g) = false) : pairCode f g = 4 := by unfold pairCode; rw [if_neg (by rw [h]; decide), if_neg (by rw [h2]; decide)]
theorem ok_sameKB {f g : Fd} (h1 : f.W = g.W) (h2 : f.H = g.H) (h3 : rowEq 100 f.K g.K = true) : sameKB f g = true := by simp [sameKB, h1, h2, h3]

/-- Two fields that lie in two blocks. -/
def Two (w0 : World) (b c : Nat) (f g : Fd) (w : World) : Prop := Below w0.heap.size w0 w ∧ Blk w b (fcells f) 31 ∧ Blk w c (fcells g) 31
theorem grows_two {w0 : World} {b c : Nat} {f g : Fd} : Grows (Two w0 b c f g) := fun _ _ h hb => ⟨h.1.trans (hb.mono h.1.size), h.2.1.later hb, h.2.2.later hb⟩
theorem Two.drewN {w0 w : World} {b c : Nat} {f g : Fd} (h : Two w0 b c f g w) (n : Nat) : Two w0 b c f g (w.drewN n) := ⟨below_drewN n h.1, h.2.1.drewN n, h.2.2.drewN n⟩
theorem Two.drew {w0 w : World} {b c : Nat} {f g : Fd} (h : Two w0 b c f g w) : Two w0 b c f g w.drew := ⟨h.1.drew, h.2.1, h.2.2⟩
theorem load_s8 (b off : Nat) (n : Int) (w : World) (c : w.cell? ⟨b, off, none⟩ = some (.int .i8 n)) : (Instr.loadAt 22 (.pointer (some ⟨b, off, none⟩))).run Tryd.prog w = .ok (.int .i8 n) w := by
  simp [go_sem, c]
theorem run_equalIn_kinds (f g : Nat → Int) (hf : ∀ i, i < 100 → 0 ≤ f i ∧ f i ≤ 255) (hg : ∀ i, i < 100 → 0 ≤ g i ∧ g i ≤ 255) (w : World) : (Op.equalIn 10000 23 (.agg (acells .u8 100 f)) (.agg (acells .u8 100 g))).run Tryd.prog w = .ok (rowEq 100 f g) w := by
  have hk : Tryd.prog.keyTypeAt 5 23 = true := by kernel_rfl
  have fm : ∀ f, (Value.agg (acells .u8 100 f)).formed Tryd.prog 23 = true := fun f => by
    simp only [Value.formed, Tryd.underlying23, acells_size]; kernel_rfl
  obtain ⟨r, hr, hiff⟩ := run_equalIn_deep 9995 5 23 hk w _ _ (.agg (acells .u8 100 f)) (.agg (acells .u8 100 g)) _ _ (fm f) (fm g)
    (keyLits_ints 0 Tryd.underlying23 Tryd.underlying5 (by kernel_rfl) (by kernel_rfl) f (fun i hi => lit_u8 (hf i hi))) (keyLits_ints 0 Tryd.underlying23 Tryd.underlying5 (by kernel_rfl) (by kernel_rfl) g (fun i hi => lit_u8 (hg i hi)))
  have e : r = rowEq 100 f g := by
    rw [Bool.eq_iff_iff, rowEq_iff (k := .u8), hiff]
    constructor
    · intro h
      have h2 : (List.range 100).map (fun i => Value.int .u8 (f i)) = (List.range 100).map (fun i => Value.int .u8 (g i)) := by
        have := congrArg (List.map Lit.toCell) h
        simpa [List.map_map, Function.comp_def, Lit.toCell] using this
      exact congrArg List.toArray h2
    · intro h
      exact List.map_congr_left (fun i hi => by rw [acells_inj h i (List.mem_range.1 hi)])
  subst e
  exact hr
theorem run_neq_agg {P : Program} (t : TypeId) (xs ys : Array Value) (r : Bool) (w : World) (x y : Operand) (hm : P.eqGuardType P.depth t = false) (hr : (Op.equalIn 10000 t (.agg xs) (.agg ys)).run P w = .ok r w) :
    (do eqGuard .neq t x y (.agg xs) (.agg ys); binOp .neq t (.agg xs) (.agg ys) : Sem Value).run P w = .ok (.bool (!r)) w := by
  rw [Sem.run_bind, run_eqGuard_agg w .neq t x y xs ys hm, Result.andThen_ok, run_neq_struct w t xs ys, hr]
  rfl
theorem rel_neqP {P : Program} {ops : Array Oper} {C : World → Prop} {l : List OpD} {Q : Act → Left → Prop} {o : Oper} {rest : List Oper} {k : Nat} {a : Act} {g : Left} (t t' : TypeId) (x y : Operand) (ho : o.op = .binOp .neq t x y t') (xs ys : Array Value) (hx : a.eval x = .agg xs) (hy : a.eval y = .agg ys) (r : Bool) (hl : l[k]? = some (dV (.bool (!r)))) (hw : Region.wanted o (yielded ops a.tmps) = true)
    (hm : P.eqGuardType P.depth t = false) (hr : ∀ w, (Op.equalIn 10000 t (.agg xs) (.agg ys)).run P w = .ok r w)
    (h2 : ∀ x, wpRel P ops C (DL l) Q rest (k + 1) (a.put o.dst (.bool (!r))) (g.upd k x)) : wpRel P ops C (DL l) Q (o :: rest) k a g :=
  rel_val _ hl hw (fun w _ => by
    unfold execOp
    simp only [ho, hx, hy]
    rw [Sem.run_bind, run_neq_agg t xs ys r w x y hm (hr w), Result.andThen_ok, Sem.run_pure]) h2

/-- What is lost. -/
def lossN (f g : Fd) (i : Nat) : Int := f.S i - g.S i
theorem lossN_in {f g : Fd} (h1 : okF f = true) (h2 : okF g = true) {i : Nat} (hi : i < 100) : -1000 ≤ lossN f g i ∧ lossN f g i ≤ 1000 := by
  have := ok_seeds h1 hi; have := ok_seeds h2 hi; unfold lossN; omega
end Go.Proofs.YtddbpbibjiahgaaDoor
