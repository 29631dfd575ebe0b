/-
  Two fields, before and after: the model's code of them, and what is lost.
-/
import Derived.Test.YtgnfpmpjmliegaaDoorRowB
import Derived.Test.YtgnfpmpjmliegaaDoorSpec1
import Derived.Test.YtgnfpmpjmliegaaDoorRelC
import Derived.Test.YtgnfpmpjmliegaaDoorChk2
import Derived.Test.YtgnfpmpjmliegaaDoorTurn
import Derived.Test.YtgnfpmpjmliegaaDoorLawh
import Derived.Lib.Hide
import Derived.Outline
import Derived.OwnWalk
namespace Go.Proofs.YtgnfpmpjmliegaaDoor
open Go Go.RowKit Go.Shelf
attribute [local go_sem] Oper.semAt_some

/-- The same sizes and kinds. -/
def sameKB (f g : Fd) : Bool := f.W == g.W && f.H == g.H && rowEq 100 f.K g.K
/-- No number has more seeds after than before. -/
def lessB (f g : Fd) : Bool := allTo 100 (fun i => decide (g.S i ≤ f.S i))
def pairOk (f g : Fd) : Bool := okF f && okF g && sameKB f g && lessB f g
def pairCode (f g : Fd) : Int := if (okF f && okF g) = false then 1 else if (sameKB f g && lessB f g) = true then 0 else 4
theorem pairCode_bad {f g : Fd} (h : (okF f && okF g) = false) : pairCode f g = 1 := by unfold pairCode; rw [if_pos h]
theorem pairCode_ok {f g : Fd} (h : (okF f && okF g) = true) (h2 : (sameKB f g && lessB f g) = true) : pairCode f g = 0 := by unfold pairCode; rw [if_neg (by rw [h]; decide), if_pos h2]
theorem pairCode_no {f g : Fd} (h : (okF f && okF g) = true) (h2 : (sameKB f g && lessB f g) = false) : pairCode f g = 4 := by unfold pairCode; rw [if_neg (by rw [h]; decide), if_neg (by rw [h2]; decide)]
theorem ok_sameKB {f g : Fd} (h1 : f.W = g.W) (h2 : f.H = g.H) (h3 : rowEq 100 f.K g.K = true) : sameKB f g = true := by simp [sameKB, h1, h2, h3]

/-- Two fields that lie in two blocks. -/
def Two (w0 : World) (b c : Nat) (f g : Fd) (w : World) : Prop := Below w0.heap.size w0 w ∧ Blk w b (fcells f) 32 ∧ Blk w c (fcells g) 32
theorem grows_two {w0 : World} {b c : Nat} {f g : Fd} : Grows (Two w0 b c f g) := fun _ _ h hb => ⟨h.1.trans (hb.mono h.1.size), h.2.1.later hb, h.2.2.later hb⟩
theorem Two.drewN {w0 w : World} {b c : Nat} {f g : Fd} (h : Two w0 b c f g w) (n : Nat) : Two w0 b c f g (w.drewN n) := ⟨below_drewN n h.1, h.2.1.drewN n, h.2.2.drewN n⟩
theorem Two.drew {w0 w : World} {b c : Nat} {f g : Fd} (h : Two w0 b c f g w) : Two w0 b c f g w.drew := ⟨h.1.drew, h.2.1, h.2.2⟩
theorem load_s8 (b off : Nat) (n : Int) (w : World) (c : w.cell? ⟨b, off, none⟩ = some (.int .i8 n)) : (Instr.loadAt 22 (.pointer (some ⟨b, off, none⟩))).run Tryd.prog w = .ok (.int .i8 n) w := by
  simp [go_sem, c]
theorem run_equalIn_kinds (f g : Nat → Int) (hf : ∀ i, i < 100 → 0 ≤ f i ∧ f i ≤ 255) (hg : ∀ i, i < 100 → 0 ≤ g i ∧ g i ≤ 255) (w : World) : (Op.equalIn 10000 23 (.agg (acells .u8 100 f)) (.agg (acells .u8 100 g))).run Tryd.prog w = .ok (rowEq 100 f g) w := by
  have hk : Tryd.prog.keyTypeAt 5 23 = true := by kernel_rfl
  have fm : ∀ f, (Value.agg (acells .u8 100 f)).formed Tryd.prog 23 = true := fun f => by
    simp only [Value.formed, Tryd.underlying23, acells_size]; kernel_rfl
  obtain ⟨r, hr, hiff⟩ := run_equalIn_deep 9995 5 23 hk w _ _ (.agg (acells .u8 100 f)) (.agg (acells .u8 100 g)) _ _ (fm f) (fm g)
    (keyLits_ints 0 Tryd.underlying23 Tryd.underlying5 (by kernel_rfl) (by kernel_rfl) f (fun i hi => lit_u8 (hf i hi))) (keyLits_ints 0 Tryd.underlying23 Tryd.underlying5 (by kernel_rfl) (by kernel_rfl) g (fun i hi => lit_u8 (hg i hi)))
  have e : r = rowEq 100 f g := by
    rw [Bool.eq_iff_iff, rowEq_iff (k := .u8), hiff]
    constructor
    · intro h
      have h2 : (List.range 100).map (fun i => Value.int .u8 (f i)) = (List.range 100).map (fun i => Value.int .u8 (g i)) := by
        have := congrArg (List.map Lit.toCell) h
        simpa [List.map_map, Function.comp_def, Lit.toCell] using this
      exact congrArg List.toArray h2
    · intro h
      exact List.map_congr_left (fun i hi => by rw [acells_inj h i (List.mem_range.1 hi)])
  subst e
  exact hr
theorem run_neq_agg {P : Program} (t : TypeId) (xs ys : Array Value) (r : Bool) (w : World) (x y : Operand) (hm : P.eqGuardType P.depth t = false) (hr : (Op.equalIn 10000 t (.agg xs) (.agg ys)).run P w = .ok r w) :
    (do eqGuard .neq t x y (.agg xs) (.agg ys); binOp .neq t (.agg xs) (.agg ys) : Sem Value).run P w = .ok (.bool (!r)) w := by
  rw [Sem.run_bind, run_eqGuard_agg w .neq t x y xs ys hm, Result.andThen_ok, run_neq_struct w t xs ys, hr]
  rfl
theorem rel_neq {P : Program} {ops : Array Oper} {C : World → Prop} {l : List OpD} {Q : Act → Left → Prop} {o : Oper} {rest : List Oper} {k : Nat} {a : Act} {g : Left} (t t' : TypeId) (x y : Operand) (ho : o.op = .binOp .neq t x y t') (xs ys : Array Value) (hx : a.eval x = .agg xs) (hy : a.eval y = .agg ys) (r : Bool) (hl : l[k]? = some (dV (.bool (!r)))) (hw : Region.wanted o (yielded ops a.tmps) = true)
    (hm : P.eqGuardType P.depth t = false) (hr : ∀ w, (Op.equalIn 10000 t (.agg xs) (.agg ys)).run P w = .ok r w)
    (h2 : ∀ x, wpRel P ops C (DL l) Q rest (k + 1) (a.put o.dst (.bool (!r))) (g.upd k x)) : wpRel P ops C (DL l) Q (o :: rest) k a g :=
  rel_val _ hl hw (fun w _ => by
    unfold execOp
    simp only [ho, hx, hy]
    rw [Sem.run_bind, run_neq_agg t xs ys r w x y hm (hr w), Result.andThen_ok, Sem.run_pure]) h2

set_option maxRecDepth 100000 in
set_option maxHeartbeats 8000000 in
theorem l06Pair_any (f g : Fd) (hf : f.Wf) (hg : g.Wf) (b c : Nat) (w : World) (B : Blk w b (fcells f) 32) (C : Blk w c (fcells g) 32) :
    Calls Tryd.prog 32 #[.pointer (some ⟨b, 0, none⟩), .pointer (some ⟨c, 0, none⟩)] w fun e w' => e = .returned (.int .i64 (pairCode f g)) ∧ Below w.heap.size w w' := by
  have HB := Lib.hid B
  have HC := Lib.hid C
  have HKf := Lib.hid hf.K
  have HKg := Lib.hid hg.K
  clear B C
  cases h1 : okF f with
  | false =>
    rw [pairCode_bad (by rw [h1]; rfl)]
    go_enter Tryd.func32, Tryd.ntmps32
    go_wp2_with (go_at_call 45; refine (l01Ok_any f hf _ _ HB.out).mono ?_; rintro e w' ⟨rfl, rfl⟩; rw [h1])
    go_ret
    exact ⟨rfl, Below.refl _ _⟩
  | true =>
  cases h2 : okF g with
  | false =>
    rw [pairCode_bad (by rw [h1, h2]; rfl)]
    go_enter Tryd.func32, Tryd.ntmps32
    have ok1 : True := trivial
    have ok2 : True := trivial
    go_wp2_with (first | (go_at_call 45; clear ok1; refine (l01Ok_any f hf _ _ HB.out).mono ?_; rintro e w' ⟨rfl, rfl⟩; rw [h1]) | (go_at_call 45; clear ok2; refine (l01Ok_any g hg _ _ HC.out).mono ?_; rintro e w' ⟨rfl, rfl⟩; rw [h2]))
    go_ret
    exact ⟨rfl, Below.refl _ _⟩
  | true =>
  have hoo : Hid ((okF f && okF g) = true) := Lib.hid (by rw [h1, h2]; rfl)
  obtain ⟨hWf, _⟩ := okF_size h1
  by_cases hd0 : f.W = g.W
  case neg =>
    have hd : (f.W != g.W) = true := by simpa using hd0
    rw [pairCode_no hoo.out (by rw [show sameKB f g = false by simp [sameKB, hd0]]; rfl)]
    go_enter Tryd.func32, Tryd.ntmps32
    have ok1 : True := trivial
    have ok2 : True := trivial
    go_upto_region 3 with (first | (go_at_call 45; clear ok1; refine (l01Ok_any f hf _ _ HB.out).mono ?_; rintro e w' ⟨rfl, rfl⟩; rw [h1]) | (go_at_call 45; clear ok2; refine (l01Ok_any g hg _ _ HC.out).mono ?_; rintro e w' ⟨rfl, rfl⟩; rw [h2]))
    refine wp_region_rel (DL [dV (.pointer (some ⟨b, 0, none⟩)), dV (.pointer (some ⟨b, 0, none⟩)), dV (.pointer (some ⟨b, 0, none⟩)), dV (.int .i8 f.W), dV (.pointer (some ⟨c, 0, none⟩)), dV (.pointer (some ⟨c, 0, none⟩)), dV (.pointer (some ⟨c, 0, none⟩)), dV (.int .i8 g.W), dV (.bool true), dV (.bool true), dV undef, dV undef, dV undef, dV undef, dV undef, dV undef, dV undef, dV undef, dV undef, dV (.bool true), dV (.bool true), dV undef, dV undef, dV undef, dV undef, dV undef, dV undef, dV undef, dV undef, dV undef, dV (.bool true)]) (fun w' => Two w b c f g w') (by kernel_rfl) (by kernel_rfl) grows_two
      (stays_DL (fun d hd => by
        simp only [List.mem_cons, List.mem_nil_iff, or_false] at hd
        rcases hd with rfl | rfl | rfl | rfl | rfl | rfl | rfl | rfl | rfl | rfl | rfl | rfl | rfl | rfl | rfl | rfl | rfl | rfl | rfl | rfl | rfl | rfl | rfl | rfl | rfl | rfl | rfl | rfl | rfl | rfl | rfl <;> exact stay_V)) (show Two w b c f g w.drew from ⟨(Below.refl _ _).drew, HB.out, HC.out⟩) ?_
    refine rel_val _ rfl rfl (fun _ _ => rfl) (fun _ => ?_)
    simp only [Act.put, List.setIfInBounds_toArray, List.set_cons_zero, List.set_cons_succ]
    refine rel_val (.pointer (some ⟨b, 0, none⟩)) rfl rfl (fun _ _ => rfl) (fun _ => ?_)
    simp only [Act.put, List.setIfInBounds_toArray, List.set_cons_zero, List.set_cons_succ]
    refine rel_val (.pointer (some ⟨b, 0, none⟩)) rfl rfl (fun _ _ => rfl) (fun _ => ?_)
    simp only [Act.put, List.setIfInBounds_toArray, List.set_cons_zero, List.set_cons_succ]
    refine rel_cell 22 _ rfl (b) (0) rfl (.int .i8 f.W) rfl rfl (fun w' c => load_s8 _ _ _ w' c) (fun w' hw' => hw'.2.1.cell (fcells_0 f)) (fun _ => ?_)
    simp only [Act.put, List.setIfInBounds_toArray, List.set_cons_zero, List.set_cons_succ]
    refine rel_val _ rfl rfl (fun _ _ => rfl) (fun _ => ?_)
    simp only [Act.put, List.setIfInBounds_toArray, List.set_cons_zero, List.set_cons_succ]
    refine rel_val (.pointer (some ⟨c, 0, none⟩)) rfl rfl (fun _ _ => rfl) (fun _ => ?_)
    simp only [Act.put, List.setIfInBounds_toArray, List.set_cons_zero, List.set_cons_succ]
    refine rel_val (.pointer (some ⟨c, 0, none⟩)) rfl rfl (fun _ _ => rfl) (fun _ => ?_)
    simp only [Act.put, List.setIfInBounds_toArray, List.set_cons_zero, List.set_cons_succ]
    refine rel_cell 22 _ rfl (c) (0) rfl (.int .i8 g.W) rfl rfl (fun w' c => load_s8 _ _ _ w' c) (fun w' hw' => hw'.2.2.cell (fcells_0 g)) (fun _ => ?_)
    simp only [Act.put, List.setIfInBounds_toArray, List.set_cons_zero, List.set_cons_succ]
    refine rel_val (.bool true) rfl rfl (fun w' _ => by simp [execOp, Act.eval, go_sem, hd]) (fun _ => ?_)
    simp only [Act.put, List.setIfInBounds_toArray, List.set_cons_zero, List.set_cons_succ]
    refine rel_val _ rfl rfl (fun _ _ => rfl) (fun _ => ?_)
    simp only [Act.put, List.setIfInBounds_toArray, List.set_cons_zero, List.set_cons_succ]
    refine rel_skip rfl ?_
    simp only [Act.put, List.setIfInBounds_toArray, List.set_cons_zero, List.set_cons_succ]
    refine rel_skip rfl ?_
    simp only [Act.put, List.setIfInBounds_toArray, List.set_cons_zero, List.set_cons_succ]
    refine rel_skip rfl ?_
    simp only [Act.put, List.setIfInBounds_toArray, List.set_cons_zero, List.set_cons_succ]
    refine rel_skip rfl ?_
    simp only [Act.put, List.setIfInBounds_toArray, List.set_cons_zero, List.set_cons_succ]
    refine rel_skip rfl ?_
    simp only [Act.put, List.setIfInBounds_toArray, List.set_cons_zero, List.set_cons_succ]
    refine rel_skip rfl ?_
    simp only [Act.put, List.setIfInBounds_toArray, List.set_cons_zero, List.set_cons_succ]
    refine rel_skip rfl ?_
    simp only [Act.put, List.setIfInBounds_toArray, List.set_cons_zero, List.set_cons_succ]
    refine rel_skip rfl ?_
    simp only [Act.put, List.setIfInBounds_toArray, List.set_cons_zero, List.set_cons_succ]
    refine rel_skip rfl ?_
    simp only [Act.put, List.setIfInBounds_toArray, List.set_cons_zero, List.set_cons_succ]
    refine rel_val (.bool true) rfl rfl (fun _ _ => rfl) (fun _ => ?_)
    simp only [Act.put, List.setIfInBounds_toArray, List.set_cons_zero, List.set_cons_succ]
    refine rel_val _ rfl rfl (fun _ _ => rfl) (fun _ => ?_)
    simp only [Act.put, List.setIfInBounds_toArray, List.set_cons_zero, List.set_cons_succ]
    refine rel_skip rfl ?_
    simp only [Act.put, List.setIfInBounds_toArray, List.set_cons_zero, List.set_cons_succ]
    refine rel_skip rfl ?_
    simp only [Act.put, List.setIfInBounds_toArray, List.set_cons_zero, List.set_cons_succ]
    refine rel_skip rfl ?_
    simp only [Act.put, List.setIfInBounds_toArray, List.set_cons_zero, List.set_cons_succ]
    refine rel_skip rfl ?_
    simp only [Act.put, List.setIfInBounds_toArray, List.set_cons_zero, List.set_cons_succ]
    refine rel_skip rfl ?_
    simp only [Act.put, List.setIfInBounds_toArray, List.set_cons_zero, List.set_cons_succ]
    refine rel_skip rfl ?_
    simp only [Act.put, List.setIfInBounds_toArray, List.set_cons_zero, List.set_cons_succ]
    refine rel_skip rfl ?_
    simp only [Act.put, List.setIfInBounds_toArray, List.set_cons_zero, List.set_cons_succ]
    refine rel_skip rfl ?_
    simp only [Act.put, List.setIfInBounds_toArray, List.set_cons_zero, List.set_cons_succ]
    refine rel_skip rfl ?_
    simp only [Act.put, List.setIfInBounds_toArray, List.set_cons_zero, List.set_cons_succ]
    refine rel_val (.bool true) rfl rfl (fun _ _ => rfl) (fun _ => ?_)
    simp only [Act.put, List.setIfInBounds_toArray, List.set_cons_zero, List.set_cons_succ]
    refine rel_nil (fun W1 inv => ?_)
    have M1 := Lib.hid inv.cls
    clear inv
    go_wp2_with fail
    go_ret
    exact ⟨rfl, M1.out.1⟩
  case pos =>
  have hd : (f.W != g.W) = false := by simpa using hd0
  by_cases he0 : f.H = g.H
  case neg =>
    have he : (f.H != g.H) = true := by simpa using he0
    rw [pairCode_no hoo.out (by rw [show sameKB f g = false by simp [sameKB, he0]]; rfl)]
    go_enter Tryd.func32, Tryd.ntmps32
    have ok1 : True := trivial
    have ok2 : True := trivial
    go_upto_region 3 with (first | (go_at_call 45; clear ok1; refine (l01Ok_any f hf _ _ HB.out).mono ?_; rintro e w' ⟨rfl, rfl⟩; rw [h1]) | (go_at_call 45; clear ok2; refine (l01Ok_any g hg _ _ HC.out).mono ?_; rintro e w' ⟨rfl, rfl⟩; rw [h2]))
    refine wp_region_rel (DL [dV (.pointer (some ⟨b, 0, none⟩)), dV (.pointer (some ⟨b, 0, none⟩)), dV (.pointer (some ⟨b, 0, none⟩)), dV (.int .i8 f.W), dV (.pointer (some ⟨c, 0, none⟩)), dV (.pointer (some ⟨c, 0, none⟩)), dV (.pointer (some ⟨c, 0, none⟩)), dV (.int .i8 g.W), dV (.bool false), dV (.bool false), dV (.pointer (some ⟨b, 0, none⟩)), dV (.pointer (some ⟨b, 0, none⟩)), dV (.pointer (some ⟨b, 1, none⟩)), dV (.int .i8 f.H), dV (.pointer (some ⟨c, 0, none⟩)), dV (.pointer (some ⟨c, 0, none⟩)), dV (.pointer (some ⟨c, 1, none⟩)), dV (.int .i8 g.H), dV (.bool true), dV (.bool true), dV (.bool true), dV undef, dV undef, dV undef, dV undef, dV undef, dV undef, dV undef, dV undef, dV undef, dV (.bool true)]) (fun w' => Two w b c f g w') (by kernel_rfl) (by kernel_rfl) grows_two
      (stays_DL (fun d hd => by
        simp only [List.mem_cons, List.mem_nil_iff, or_false] at hd
        rcases hd with rfl | rfl | rfl | rfl | rfl | rfl | rfl | rfl | rfl | rfl | rfl | rfl | rfl | rfl | rfl | rfl | rfl | rfl | rfl | rfl | rfl | rfl | rfl | rfl | rfl | rfl | rfl | rfl | rfl | rfl | rfl <;> exact stay_V)) (show Two w b c f g w.drew from ⟨(Below.refl _ _).drew, HB.out, HC.out⟩) ?_
    refine rel_val _ rfl rfl (fun _ _ => rfl) (fun _ => ?_)
    simp only [Act.put, List.setIfInBounds_toArray, List.set_cons_zero, List.set_cons_succ]
    refine rel_val (.pointer (some ⟨b, 0, none⟩)) rfl rfl (fun _ _ => rfl) (fun _ => ?_)
    simp only [Act.put, List.setIfInBounds_toArray, List.set_cons_zero, List.set_cons_succ]
    refine rel_val (.pointer (some ⟨b, 0, none⟩)) rfl rfl (fun _ _ => rfl) (fun _ => ?_)
    simp only [Act.put, List.setIfInBounds_toArray, List.set_cons_zero, List.set_cons_succ]
    refine rel_cell 22 _ rfl (b) (0) rfl (.int .i8 f.W) rfl rfl (fun w' c => load_s8 _ _ _ w' c) (fun w' hw' => hw'.2.1.cell (fcells_0 f)) (fun _ => ?_)
    simp only [Act.put, List.setIfInBounds_toArray, List.set_cons_zero, List.set_cons_succ]
    refine rel_val _ rfl rfl (fun _ _ => rfl) (fun _ => ?_)
    simp only [Act.put, List.setIfInBounds_toArray, List.set_cons_zero, List.set_cons_succ]
    refine rel_val (.pointer (some ⟨c, 0, none⟩)) rfl rfl (fun _ _ => rfl) (fun _ => ?_)
    simp only [Act.put, List.setIfInBounds_toArray, List.set_cons_zero, List.set_cons_succ]
    refine rel_val (.pointer (some ⟨c, 0, none⟩)) rfl rfl (fun _ _ => rfl) (fun _ => ?_)
    simp only [Act.put, List.setIfInBounds_toArray, List.set_cons_zero, List.set_cons_succ]
    refine rel_cell 22 _ rfl (c) (0) rfl (.int .i8 g.W) rfl rfl (fun w' c => load_s8 _ _ _ w' c) (fun w' hw' => hw'.2.2.cell (fcells_0 g)) (fun _ => ?_)
    simp only [Act.put, List.setIfInBounds_toArray, List.set_cons_zero, List.set_cons_succ]
    refine rel_val (.bool false) rfl rfl (fun w' _ => by simp [execOp, Act.eval, go_sem, hd]) (fun _ => ?_)
    simp only [Act.put, List.setIfInBounds_toArray, List.set_cons_zero, List.set_cons_succ]
    refine rel_val _ rfl rfl (fun _ _ => rfl) (fun _ => ?_)
    simp only [Act.put, List.setIfInBounds_toArray, List.set_cons_zero, List.set_cons_succ]
    refine rel_val _ rfl rfl (fun _ _ => rfl) (fun _ => ?_)
    simp only [Act.put, List.setIfInBounds_toArray, List.set_cons_zero, List.set_cons_succ]
    refine rel_val (.pointer (some ⟨b, 0, none⟩)) rfl rfl (fun _ _ => rfl) (fun _ => ?_)
    simp only [Act.put, List.setIfInBounds_toArray, List.set_cons_zero, List.set_cons_succ]
    refine rel_val (.pointer (some ⟨b, 1, none⟩)) rfl rfl (fun _ _ => rfl) (fun _ => ?_)
    simp only [Act.put, List.setIfInBounds_toArray, List.set_cons_zero, List.set_cons_succ]
    refine rel_cell 22 _ rfl (b) (1) rfl (.int .i8 f.H) rfl rfl (fun w' c => load_s8 _ _ _ w' c) (fun w' hw' => hw'.2.1.cell (fcells_1 f)) (fun _ => ?_)
    simp only [Act.put, List.setIfInBounds_toArray, List.set_cons_zero, List.set_cons_succ]
    refine rel_val _ rfl rfl (fun _ _ => rfl) (fun _ => ?_)
    simp only [Act.put, List.setIfInBounds_toArray, List.set_cons_zero, List.set_cons_succ]
    refine rel_val (.pointer (some ⟨c, 0, none⟩)) rfl rfl (fun _ _ => rfl) (fun _ => ?_)
    simp only [Act.put, List.setIfInBounds_toArray, List.set_cons_zero, List.set_cons_succ]
    refine rel_val (.pointer (some ⟨c, 1, none⟩)) rfl rfl (fun _ _ => rfl) (fun _ => ?_)
    simp only [Act.put, List.setIfInBounds_toArray, List.set_cons_zero, List.set_cons_succ]
    refine rel_cell 22 _ rfl (c) (1) rfl (.int .i8 g.H) rfl rfl (fun w' c => load_s8 _ _ _ w' c) (fun w' hw' => hw'.2.2.cell (fcells_1 g)) (fun _ => ?_)
    simp only [Act.put, List.setIfInBounds_toArray, List.set_cons_zero, List.set_cons_succ]
    refine rel_val (.bool true) rfl rfl (fun w' _ => by simp [execOp, Act.eval, go_sem, he0]) (fun _ => ?_)
    simp only [Act.put, List.setIfInBounds_toArray, List.set_cons_zero, List.set_cons_succ]
    refine rel_val (.bool true) rfl rfl (fun _ _ => rfl) (fun _ => ?_)
    simp only [Act.put, List.setIfInBounds_toArray, List.set_cons_zero, List.set_cons_succ]
    refine rel_val _ rfl rfl (fun _ _ => rfl) (fun _ => ?_)
    simp only [Act.put, List.setIfInBounds_toArray, List.set_cons_zero, List.set_cons_succ]
    refine rel_skip rfl ?_
    simp only [Act.put, List.setIfInBounds_toArray, List.set_cons_zero, List.set_cons_succ]
    refine rel_skip rfl ?_
    simp only [Act.put, List.setIfInBounds_toArray, List.set_cons_zero, List.set_cons_succ]
    refine rel_skip rfl ?_
    simp only [Act.put, List.setIfInBounds_toArray, List.set_cons_zero, List.set_cons_succ]
    refine rel_skip rfl ?_
    simp only [Act.put, List.setIfInBounds_toArray, List.set_cons_zero, List.set_cons_succ]
    refine rel_skip rfl ?_
    simp only [Act.put, List.setIfInBounds_toArray, List.set_cons_zero, List.set_cons_succ]
    refine rel_skip rfl ?_
    simp only [Act.put, List.setIfInBounds_toArray, List.set_cons_zero, List.set_cons_succ]
    refine rel_skip rfl ?_
    simp only [Act.put, List.setIfInBounds_toArray, List.set_cons_zero, List.set_cons_succ]
    refine rel_skip rfl ?_
    simp only [Act.put, List.setIfInBounds_toArray, List.set_cons_zero, List.set_cons_succ]
    refine rel_skip rfl ?_
    simp only [Act.put, List.setIfInBounds_toArray, List.set_cons_zero, List.set_cons_succ]
    refine rel_val (.bool true) rfl rfl (fun _ _ => rfl) (fun _ => ?_)
    simp only [Act.put, List.setIfInBounds_toArray, List.set_cons_zero, List.set_cons_succ]
    refine rel_nil (fun W1 inv => ?_)
    have M1 := Lib.hid inv.cls
    clear inv
    go_wp2_with fail
    go_ret
    exact ⟨rfl, M1.out.1⟩
  case pos =>
  have he : (f.H != g.H) = false := by simpa using he0
  cases hk : rowEq 100 f.K g.K with
  | false =>
    rw [pairCode_no hoo.out (by rw [show sameKB f g = false by simp [sameKB, hk]]; rfl)]
    go_enter Tryd.func32, Tryd.ntmps32
    have ok1 : True := trivial
    have ok2 : True := trivial
    go_upto_region 3 with (first | (go_at_call 45; clear ok1; refine (l01Ok_any f hf _ _ HB.out).mono ?_; rintro e w' ⟨rfl, rfl⟩; rw [h1]) | (go_at_call 45; clear ok2; refine (l01Ok_any g hg _ _ HC.out).mono ?_; rintro e w' ⟨rfl, rfl⟩; rw [h2]))
    refine wp_region_rel (DL [dV (.pointer (some ⟨b, 0, none⟩)), dV (.pointer (some ⟨b, 0, none⟩)), dV (.pointer (some ⟨b, 0, none⟩)), dV (.int .i8 f.W), dV (.pointer (some ⟨c, 0, none⟩)), dV (.pointer (some ⟨c, 0, none⟩)), dV (.pointer (some ⟨c, 0, none⟩)), dV (.int .i8 g.W), dV (.bool false), dV (.bool false), dV (.pointer (some ⟨b, 0, none⟩)), dV (.pointer (some ⟨b, 0, none⟩)), dV (.pointer (some ⟨b, 1, none⟩)), dV (.int .i8 f.H), dV (.pointer (some ⟨c, 0, none⟩)), dV (.pointer (some ⟨c, 0, none⟩)), dV (.pointer (some ⟨c, 1, none⟩)), dV (.int .i8 g.H), dV (.bool false), dV (.bool false), dV (.bool false), dV (.pointer (some ⟨b, 0, none⟩)), dV (.pointer (some ⟨b, 0, none⟩)), dV (.pointer (some ⟨b, 2, none⟩)), dV (.agg (acells .u8 100 f.K)), dV (.pointer (some ⟨c, 0, none⟩)), dV (.pointer (some ⟨c, 0, none⟩)), dV (.pointer (some ⟨c, 2, none⟩)), dV (.agg (acells .u8 100 g.K)), dV (.bool (!(rowEq 100 f.K g.K))), dV (.bool (!(rowEq 100 f.K g.K)))]) (fun w' => Two w b c f g w') (by kernel_rfl) (by kernel_rfl) grows_two
      (stays_DL (fun d hd => by
        simp only [List.mem_cons, List.mem_nil_iff, or_false] at hd
        rcases hd with rfl | rfl | rfl | rfl | rfl | rfl | rfl | rfl | rfl | rfl | rfl | rfl | rfl | rfl | rfl | rfl | rfl | rfl | rfl | rfl | rfl | rfl | rfl | rfl | rfl | rfl | rfl | rfl | rfl | rfl | rfl <;> exact stay_V)) (show Two w b c f g w.drew from ⟨(Below.refl _ _).drew, HB.out, HC.out⟩) ?_
    refine rel_val _ rfl rfl (fun _ _ => rfl) (fun _ => ?_)
    simp only [Act.put, List.setIfInBounds_toArray, List.set_cons_zero, List.set_cons_succ]
    refine rel_val (.pointer (some ⟨b, 0, none⟩)) rfl rfl (fun _ _ => rfl) (fun _ => ?_)
    simp only [Act.put, List.setIfInBounds_toArray, List.set_cons_zero, List.set_cons_succ]
    refine rel_val (.pointer (some ⟨b, 0, none⟩)) rfl rfl (fun _ _ => rfl) (fun _ => ?_)
    simp only [Act.put, List.setIfInBounds_toArray, List.set_cons_zero, List.set_cons_succ]
    refine rel_cell 22 _ rfl (b) (0) rfl (.int .i8 f.W) rfl rfl (fun w' c => load_s8 _ _ _ w' c) (fun w' hw' => hw'.2.1.cell (fcells_0 f)) (fun _ => ?_)
    simp only [Act.put, List.setIfInBounds_toArray, List.set_cons_zero, List.set_cons_succ]
    refine rel_val _ rfl rfl (fun _ _ => rfl) (fun _ => ?_)
    simp only [Act.put, List.setIfInBounds_toArray, List.set_cons_zero, List.set_cons_succ]
    refine rel_val (.pointer (some ⟨c, 0, none⟩)) rfl rfl (fun _ _ => rfl) (fun _ => ?_)
    simp only [Act.put, List.setIfInBounds_toArray, List.set_cons_zero, List.set_cons_succ]
    refine rel_val (.pointer (some ⟨c, 0, none⟩)) rfl rfl (fun _ _ => rfl) (fun _ => ?_)
    simp only [Act.put, List.setIfInBounds_toArray, List.set_cons_zero, List.set_cons_succ]
    refine rel_cell 22 _ rfl (c) (0) rfl (.int .i8 g.W) rfl rfl (fun w' c => load_s8 _ _ _ w' c) (fun w' hw' => hw'.2.2.cell (fcells_0 g)) (fun _ => ?_)
    simp only [Act.put, List.setIfInBounds_toArray, List.set_cons_zero, List.set_cons_succ]
    refine rel_val (.bool false) rfl rfl (fun w' _ => by simp [execOp, Act.eval, go_sem, hd]) (fun _ => ?_)
    simp only [Act.put, List.setIfInBounds_toArray, List.set_cons_zero, List.set_cons_succ]
    refine rel_val _ rfl rfl (fun _ _ => rfl) (fun _ => ?_)
    simp only [Act.put, List.setIfInBounds_toArray, List.set_cons_zero, List.set_cons_succ]
    refine rel_val _ rfl rfl (fun _ _ => rfl) (fun _ => ?_)
    simp only [Act.put, List.setIfInBounds_toArray, List.set_cons_zero, List.set_cons_succ]
    refine rel_val (.pointer (some ⟨b, 0, none⟩)) rfl rfl (fun _ _ => rfl) (fun _ => ?_)
    simp only [Act.put, List.setIfInBounds_toArray, List.set_cons_zero, List.set_cons_succ]
    refine rel_val (.pointer (some ⟨b, 1, none⟩)) rfl rfl (fun _ _ => rfl) (fun _ => ?_)
    simp only [Act.put, List.setIfInBounds_toArray, List.set_cons_zero, List.set_cons_succ]
    refine rel_cell 22 _ rfl (b) (1) rfl (.int .i8 f.H) rfl rfl (fun w' c => load_s8 _ _ _ w' c) (fun w' hw' => hw'.2.1.cell (fcells_1 f)) (fun _ => ?_)
    simp only [Act.put, List.setIfInBounds_toArray, List.set_cons_zero, List.set_cons_succ]
    refine rel_val _ rfl rfl (fun _ _ => rfl) (fun _ => ?_)
    simp only [Act.put, List.setIfInBounds_toArray, List.set_cons_zero, List.set_cons_succ]
    refine rel_val (.pointer (some ⟨c, 0, none⟩)) rfl rfl (fun _ _ => rfl) (fun _ => ?_)
    simp only [Act.put, List.setIfInBounds_toArray, List.set_cons_zero, List.set_cons_succ]
    refine rel_val (.pointer (some ⟨c, 1, none⟩)) rfl rfl (fun _ _ => rfl) (fun _ => ?_)
    simp only [Act.put, List.setIfInBounds_toArray, List.set_cons_zero, List.set_cons_succ]
    refine rel_cell 22 _ rfl (c) (1) rfl (.int .i8 g.H) rfl rfl (fun w' c => load_s8 _ _ _ w' c) (fun w' hw' => hw'.2.2.cell (fcells_1 g)) (fun _ => ?_)
    simp only [Act.put, List.setIfInBounds_toArray, List.set_cons_zero, List.set_cons_succ]
    refine rel_val (.bool false) rfl rfl (fun w' _ => by simp [execOp, Act.eval, go_sem, he]) (fun _ => ?_)
    simp only [Act.put, List.setIfInBounds_toArray, List.set_cons_zero, List.set_cons_succ]
    refine rel_val (.bool false) rfl rfl (fun _ _ => rfl) (fun _ => ?_)
    simp only [Act.put, List.setIfInBounds_toArray, List.set_cons_zero, List.set_cons_succ]
    refine rel_val _ rfl rfl (fun _ _ => rfl) (fun _ => ?_)
    simp only [Act.put, List.setIfInBounds_toArray, List.set_cons_zero, List.set_cons_succ]
    refine rel_val _ rfl rfl (fun _ _ => rfl) (fun _ => ?_)
    simp only [Act.put, List.setIfInBounds_toArray, List.set_cons_zero, List.set_cons_succ]
    refine rel_val (.pointer (some ⟨b, 0, none⟩)) rfl rfl (fun _ _ => rfl) (fun _ => ?_)
    simp only [Act.put, List.setIfInBounds_toArray, List.set_cons_zero, List.set_cons_succ]
    refine rel_val (.pointer (some ⟨b, 2, none⟩)) rfl rfl (fun _ _ => rfl) (fun _ => ?_)
    simp only [Act.put, List.setIfInBounds_toArray, List.set_cons_zero, List.set_cons_succ]
    refine rel_load 23 _ rfl b 2 rfl (acells .u8 100 f.K) _ rfl rfl (fun w' hw' => hw'.2.1.kinds) Tryd.underlying23 rfl (by rw [acells_size]; exact sizeK) (fun _ => ?_)
    simp only [Act.put, List.setIfInBounds_toArray, List.set_cons_zero, List.set_cons_succ]
    refine rel_val _ rfl rfl (fun _ _ => rfl) (fun _ => ?_)
    simp only [Act.put, List.setIfInBounds_toArray, List.set_cons_zero, List.set_cons_succ]
    refine rel_val (.pointer (some ⟨c, 0, none⟩)) rfl rfl (fun _ _ => rfl) (fun _ => ?_)
    simp only [Act.put, List.setIfInBounds_toArray, List.set_cons_zero, List.set_cons_succ]
    refine rel_val (.pointer (some ⟨c, 2, none⟩)) rfl rfl (fun _ _ => rfl) (fun _ => ?_)
    simp only [Act.put, List.setIfInBounds_toArray, List.set_cons_zero, List.set_cons_succ]
    refine rel_load 23 _ rfl c 2 rfl (acells .u8 100 g.K) _ rfl rfl (fun w' hw' => hw'.2.2.kinds) Tryd.underlying23 rfl (by rw [acells_size]; exact sizeK) (fun _ => ?_)
    simp only [Act.put, List.setIfInBounds_toArray, List.set_cons_zero, List.set_cons_succ]
    refine rel_neq 23 _ _ _ rfl (acells .u8 100 f.K) (acells .u8 100 g.K) rfl rfl (rowEq 100 f.K g.K) rfl rfl (by kernel_rfl) (fun w' => run_equalIn_kinds f.K g.K HKf.out HKg.out w') (fun _ => ?_)
    simp only [Act.put, List.setIfInBounds_toArray, List.set_cons_zero, List.set_cons_succ]
    refine rel_val (.bool (!(rowEq 100 f.K g.K))) rfl rfl (fun _ _ => rfl) (fun _ => ?_)
    simp only [Act.put, List.setIfInBounds_toArray, List.set_cons_zero, List.set_cons_succ]
    refine rel_nil (fun W1 inv => ?_)
    have M1 := Lib.hid inv.cls
    clear inv
    rw [hk, Bool.not_false]
    go_wp2_with fail
    go_ret
    exact ⟨rfl, M1.out.1⟩
  | true =>
    have hs : Hid (sameKB f g = true) := Lib.hid (ok_sameKB hd0 he0 hk)
    go_enter Tryd.func32, Tryd.ntmps32
    have ok1 : True := trivial
    have ok2 : True := trivial
    go_upto_region 3 with (first | (go_at_call 45; clear ok1; refine (l01Ok_any f hf _ _ HB.out).mono ?_; rintro e w' ⟨rfl, rfl⟩; rw [h1]) | (go_at_call 45; clear ok2; refine (l01Ok_any g hg _ _ HC.out).mono ?_; rintro e w' ⟨rfl, rfl⟩; rw [h2]))
    refine wp_region_rel (DL [dV (.pointer (some ⟨b, 0, none⟩)), dV (.pointer (some ⟨b, 0, none⟩)), dV (.pointer (some ⟨b, 0, none⟩)), dV (.int .i8 f.W), dV (.pointer (some ⟨c, 0, none⟩)), dV (.pointer (some ⟨c, 0, none⟩)), dV (.pointer (some ⟨c, 0, none⟩)), dV (.int .i8 g.W), dV (.bool false), dV (.bool false), dV (.pointer (some ⟨b, 0, none⟩)), dV (.pointer (some ⟨b, 0, none⟩)), dV (.pointer (some ⟨b, 1, none⟩)), dV (.int .i8 f.H), dV (.pointer (some ⟨c, 0, none⟩)), dV (.pointer (some ⟨c, 0, none⟩)), dV (.pointer (some ⟨c, 1, none⟩)), dV (.int .i8 g.H), dV (.bool false), dV (.bool false), dV (.bool false), dV (.pointer (some ⟨b, 0, none⟩)), dV (.pointer (some ⟨b, 0, none⟩)), dV (.pointer (some ⟨b, 2, none⟩)), dV (.agg (acells .u8 100 f.K)), dV (.pointer (some ⟨c, 0, none⟩)), dV (.pointer (some ⟨c, 0, none⟩)), dV (.pointer (some ⟨c, 2, none⟩)), dV (.agg (acells .u8 100 g.K)), dV (.bool (!(rowEq 100 f.K g.K))), dV (.bool (!(rowEq 100 f.K g.K)))]) (fun w' => Two w b c f g w') (by kernel_rfl) (by kernel_rfl) grows_two
      (stays_DL (fun d hd => by
        simp only [List.mem_cons, List.mem_nil_iff, or_false] at hd
        rcases hd with rfl | rfl | rfl | rfl | rfl | rfl | rfl | rfl | rfl | rfl | rfl | rfl | rfl | rfl | rfl | rfl | rfl | rfl | rfl | rfl | rfl | rfl | rfl | rfl | rfl | rfl | rfl | rfl | rfl | rfl | rfl <;> exact stay_V)) (show Two w b c f g w.drew from ⟨(Below.refl _ _).drew, HB.out, HC.out⟩) ?_
    refine rel_val _ rfl rfl (fun _ _ => rfl) (fun _ => ?_)
    simp only [Act.put, List.setIfInBounds_toArray, List.set_cons_zero, List.set_cons_succ]
    refine rel_val (.pointer (some ⟨b, 0, none⟩)) rfl rfl (fun _ _ => rfl) (fun _ => ?_)
    simp only [Act.put, List.setIfInBounds_toArray, List.set_cons_zero, List.set_cons_succ]
    refine rel_val (.pointer (some ⟨b, 0, none⟩)) rfl rfl (fun _ _ => rfl) (fun _ => ?_)
    simp only [Act.put, List.setIfInBounds_toArray, List.set_cons_zero, List.set_cons_succ]
    refine rel_cell 22 _ rfl (b) (0) rfl (.int .i8 f.W) rfl rfl (fun w' c => load_s8 _ _ _ w' c) (fun w' hw' => hw'.2.1.cell (fcells_0 f)) (fun _ => ?_)
    simp only [Act.put, List.setIfInBounds_toArray, List.set_cons_zero, List.set_cons_succ]
    refine rel_val _ rfl rfl (fun _ _ => rfl) (fun _ => ?_)
    simp only [Act.put, List.setIfInBounds_toArray, List.set_cons_zero, List.set_cons_succ]
    refine rel_val (.pointer (some ⟨c, 0, none⟩)) rfl rfl (fun _ _ => rfl) (fun _ => ?_)
    simp only [Act.put, List.setIfInBounds_toArray, List.set_cons_zero, List.set_cons_succ]
    refine rel_val (.pointer (some ⟨c, 0, none⟩)) rfl rfl (fun _ _ => rfl) (fun _ => ?_)
    simp only [Act.put, List.setIfInBounds_toArray, List.set_cons_zero, List.set_cons_succ]
    refine rel_cell 22 _ rfl (c) (0) rfl (.int .i8 g.W) rfl rfl (fun w' c => load_s8 _ _ _ w' c) (fun w' hw' => hw'.2.2.cell (fcells_0 g)) (fun _ => ?_)
    simp only [Act.put, List.setIfInBounds_toArray, List.set_cons_zero, List.set_cons_succ]
    refine rel_val (.bool false) rfl rfl (fun w' _ => by simp [execOp, Act.eval, go_sem, hd]) (fun _ => ?_)
    simp only [Act.put, List.setIfInBounds_toArray, List.set_cons_zero, List.set_cons_succ]
    refine rel_val _ rfl rfl (fun _ _ => rfl) (fun _ => ?_)
    simp only [Act.put, List.setIfInBounds_toArray, List.set_cons_zero, List.set_cons_succ]
    refine rel_val _ rfl rfl (fun _ _ => rfl) (fun _ => ?_)
    simp only [Act.put, List.setIfInBounds_toArray, List.set_cons_zero, List.set_cons_succ]
    refine rel_val (.pointer (some ⟨b, 0, none⟩)) rfl rfl (fun _ _ => rfl) (fun _ => ?_)
    simp only [Act.put, List.setIfInBounds_toArray, List.set_cons_zero, List.set_cons_succ]
    refine rel_val (.pointer (some ⟨b, 1, none⟩)) rfl rfl (fun _ _ => rfl) (fun _ => ?_)
    simp only [Act.put, List.setIfInBounds_toArray, List.set_cons_zero, List.set_cons_succ]
    refine rel_cell 22 _ rfl (b) (1) rfl (.int .i8 f.H) rfl rfl (fun w' c => load_s8 _ _ _ w' c) (fun w' hw' => hw'.2.1.cell (fcells_1 f)) (fun _ => ?_)
    simp only [Act.put, List.setIfInBounds_toArray, List.set_cons_zero, List.set_cons_succ]
    refine rel_val _ rfl rfl (fun _ _ => rfl) (fun _ => ?_)
    simp only [Act.put, List.setIfInBounds_toArray, List.set_cons_zero, List.set_cons_succ]
    refine rel_val (.pointer (some ⟨c, 0, none⟩)) rfl rfl (fun _ _ => rfl) (fun _ => ?_)
    simp only [Act.put, List.setIfInBounds_toArray, List.set_cons_zero, List.set_cons_succ]
    refine rel_val (.pointer (some ⟨c, 1, none⟩)) rfl rfl (fun _ _ => rfl) (fun _ => ?_)
    simp only [Act.put, List.setIfInBounds_toArray, List.set_cons_zero, List.set_cons_succ]
    refine rel_cell 22 _ rfl (c) (1) rfl (.int .i8 g.H) rfl rfl (fun w' c => load_s8 _ _ _ w' c) (fun w' hw' => hw'.2.2.cell (fcells_1 g)) (fun _ => ?_)
    simp only [Act.put, List.setIfInBounds_toArray, List.set_cons_zero, List.set_cons_succ]
    refine rel_val (.bool false) rfl rfl (fun w' _ => by simp [execOp, Act.eval, go_sem, he]) (fun _ => ?_)
    simp only [Act.put, List.setIfInBounds_toArray, List.set_cons_zero, List.set_cons_succ]
    refine rel_val (.bool false) rfl rfl (fun _ _ => rfl) (fun _ => ?_)
    simp only [Act.put, List.setIfInBounds_toArray, List.set_cons_zero, List.set_cons_succ]
    refine rel_val _ rfl rfl (fun _ _ => rfl) (fun _ => ?_)
    simp only [Act.put, List.setIfInBounds_toArray, List.set_cons_zero, List.set_cons_succ]
    refine rel_val _ rfl rfl (fun _ _ => rfl) (fun _ => ?_)
    simp only [Act.put, List.setIfInBounds_toArray, List.set_cons_zero, List.set_cons_succ]
    refine rel_val (.pointer (some ⟨b, 0, none⟩)) rfl rfl (fun _ _ => rfl) (fun _ => ?_)
    simp only [Act.put, List.setIfInBounds_toArray, List.set_cons_zero, List.set_cons_succ]
    refine rel_val (.pointer (some ⟨b, 2, none⟩)) rfl rfl (fun _ _ => rfl) (fun _ => ?_)
    simp only [Act.put, List.setIfInBounds_toArray, List.set_cons_zero, List.set_cons_succ]
    refine rel_load 23 _ rfl b 2 rfl (acells .u8 100 f.K) _ rfl rfl (fun w' hw' => hw'.2.1.kinds) Tryd.underlying23 rfl (by rw [acells_size]; exact sizeK) (fun _ => ?_)
    simp only [Act.put, List.setIfInBounds_toArray, List.set_cons_zero, List.set_cons_succ]
    refine rel_val _ rfl rfl (fun _ _ => rfl) (fun _ => ?_)
    simp only [Act.put, List.setIfInBounds_toArray, List.set_cons_zero, List.set_cons_succ]
    refine rel_val (.pointer (some ⟨c, 0, none⟩)) rfl rfl (fun _ _ => rfl) (fun _ => ?_)
    simp only [Act.put, List.setIfInBounds_toArray, List.set_cons_zero, List.set_cons_succ]
    refine rel_val (.pointer (some ⟨c, 2, none⟩)) rfl rfl (fun _ _ => rfl) (fun _ => ?_)
    simp only [Act.put, List.setIfInBounds_toArray, List.set_cons_zero, List.set_cons_succ]
    refine rel_load 23 _ rfl c 2 rfl (acells .u8 100 g.K) _ rfl rfl (fun w' hw' => hw'.2.2.kinds) Tryd.underlying23 rfl (by rw [acells_size]; exact sizeK) (fun _ => ?_)
    simp only [Act.put, List.setIfInBounds_toArray, List.set_cons_zero, List.set_cons_succ]
    refine rel_neq 23 _ _ _ rfl (acells .u8 100 f.K) (acells .u8 100 g.K) rfl rfl (rowEq 100 f.K g.K) rfl rfl (by kernel_rfl) (fun w' => run_equalIn_kinds f.K g.K HKf.out HKg.out w') (fun _ => ?_)
    simp only [Act.put, List.setIfInBounds_toArray, List.set_cons_zero, List.set_cons_succ]
    refine rel_val (.bool (!(rowEq 100 f.K g.K))) rfl rfl (fun _ _ => rfl) (fun _ => ?_)
    simp only [Act.put, List.setIfInBounds_toArray, List.set_cons_zero, List.set_cons_succ]
    refine rel_nil (fun W1 inv => ?_)
    have M1 := Lib.hid inv.cls
    clear inv
    rw [hk, Bool.not_true]
    clear hk hd hd0 he he0
    go_wp2_with fail
    go_loopw [5] (fun i wr => ∃ k : Nat, k ≤ 100 ∧ i = .int .i64 k ∧ Hid (Two w b c f g wr) ∧ Hid (∀ i, i < k → decide (g.S i ≤ f.S i) = true)) (fun i _ => 100 - (intOf i).toNat)
    case atStart => exact ⟨0, by omega, rfl, M1, Lib.hid (fun i hi => by omega)⟩
    case round =>
      clear M1
      obtain ⟨k, hk', rfl, hM, hall⟩ := hrel
      by_cases hlt : k < 100
      · have c1 := hM.out.2.1.cell (fcells_S f k hlt)
        have c2 := hM.out.2.2.cell (fcells_S g k hlt)
        by_cases hle : g.S k ≤ f.S k
        · have hnl : ¬ f.S k < g.S k := by omega
          have hnx := Lib.hid (upto_succ hall.out (decide_eq_true hle))
          go_wp2_with fail
          go_quiet (fail)
          go_wp2_with fail
          go_roundw
          case rel => exact ⟨k + 1, by omega, by go_num, Lib.hid (hM.out.drewN _), hnx⟩
          case measure => simp [intOf]; omega
        · have hl : f.S k < g.S k := by omega
          have hbad := Lib.hid (pairCode_no hoo.out (show (sameKB f g && lessB f g) = false by rw [show lessB f g = false from allTo_false hlt (decide_eq_false hle)]; simp))
          clear hle
          go_wp2_with fail
          go_quiet (fail)
          go_wp2_with fail
          go_ret
          exact ⟨by rw [hbad.out]; rfl, (hM.out.drewN _).1⟩
      · have hfin := Lib.hid (pairCode_ok hoo.out (show (sameKB f g && lessB f g) = true by rw [hs.out, show lessB f g = true from allTo_iff.2 (fun i hi => hall.out i (by omega))]; rfl))
        go_wp2_with fail
        go_ret
        exact ⟨by rw [hfin.out]; rfl, hM.out.1⟩

/-- What is lost. -/
def lossN (f g : Fd) (i : Nat) : Int := f.S i - g.S i
theorem lossN_in {f g : Fd} (h1 : okF f = true) (h2 : okF g = true) {i : Nat} (hi : i < 100) : -1000 ≤ lossN f g i ∧ lossN f g i ≤ 1000 := by
  have := ok_seeds h1 hi; have := ok_seeds h2 hi; unfold lossN; omega
set_option maxRecDepth 100000 in
set_option maxHeartbeats 4000000 in
theorem l06Loss_any (f g : Fd) (h1 : okF f = true) (h2 : okF g = true) (b c : Nat) (w : World) (B : Blk w b (fcells f) 32) (C : Blk w c (fcells g) 32) :
    Calls Tryd.prog 24 #[.pointer (some ⟨b, 0, none⟩), .pointer (some ⟨c, 0, none⟩)] w fun e w' => e = .returned (.agg (acells .i16 100 (lossN f g))) ∧ Below w.heap.size w w' := by
  have HB := Lib.hid B
  have HC := Lib.hid C
  have HL := Lib.hid (fun i (hi : i < 100) => lossN_in h1 h2 hi)
  clear B C
  go_enter Tryd.func24, Tryd.ntmps24
  go_upto_region 1 with (fail)
  have hz : Hid (Tryd.zeroCells25.size = 100) := Lib.hid (by rw [zeroS, acells_size])
  obtain ⟨W, hW, M⟩ := open1 w Tryd.zeroCells25 25
  rw [hW]; clear hW
  have M2 := M.alloc Tryd.zeroCells25 25
  have M3 := M2.row 1 rfl Tryd.zeroCells25
  go_upto_region 2 with (refine wpList_store_row rfl 25 _ _ rfl W.heap.size Tryd.zeroCells25 rfl rfl 25 _ (M2.at 1 rfl) (by rw [hz.out]; exact sizeS) rfl (by rw [zeroS]; exact acells_one _ _ _) ?_)
  generalize World.setRow _ _ _ = W2 at M3 ⊢
  obtain ⟨d, hd⟩ : ∃ d, d = W.heap.size := ⟨_, rfl⟩
  rw [← hd] at M3 ⊢
  rw [zeroS] at M3 ⊢
  clear hd M M2 hz
  go_wp2_with fail
  have e0 : acells .i16 100 (fun _ => 0) = acells .i16 100 (fun j => if j < 0 then lossN f g j else 0) := acells_congr (fun i hi => by simp)
  have M4 : Mem w W2 [⟨w.heap.size, acells .i16 100 (fun _ => 0), 25⟩, ⟨d, acells .i16 100 (fun j => if j < 0 then lossN f g j else 0), 25⟩] := by rw [← e0]; exact M3
  clear M3
  go_loopw [6] (fun i wr => ∃ k : Nat, k ≤ 100 ∧ i = .int .i64 k ∧ Hid (Mem w wr [⟨w.heap.size, acells .i16 100 (fun _ => 0), 25⟩, ⟨d, acells .i16 100 (fun j => if j < k then lossN f g j else 0), 25⟩])) (fun i _ => 100 - (intOf i).toNat)
  case atStart => exact ⟨0, by omega, rfl, Lib.hid M4⟩
  case round =>
    clear M4
    obtain ⟨k, hk', rfl, hM⟩ := hrel
    by_cases hlt : k < 100
    · have c1 := (HB.out.later hM.out.below).cell (fcells_S f k hlt)
      have c2 := (HC.out.later hM.out.below).cell (fcells_S g k hlt)
      have f3 := (hM.out.at 1 rfl).free k
      have c3 := (hM.out.at 1 rfl).cell (acells_get _ _ _ k hlt)
      have hw1 : Hid (IntKind.i16.wrap (f.S k - g.S k) = lossN f g k) := Lib.hid (by have := HL.out k hlt; unfold lossN at this ⊢; exact IntWalk.i16_in _ (by omega))
      have e8 : acells .i16 100 (fun j => if j = k then lossN f g k else if j < k then lossN f g j else 0) = acells .i16 100 (fun j => if j < k + 1 then lossN f g j else 0) := acells_congr (fun i _ => by
        by_cases e : i = k
        · subst e; simp
        · by_cases e2 : i < k
          · simp [e, e2, Nat.lt_succ_of_lt e2]
          · simp [e, e2]; omega)
      have M7 := (hM.out.set 1 k (.int .i16 (lossN f g k)) rfl _ (acells_set _ _ _ _ _ hlt)).drew
      rw [e8] at M7
      have M8 := Lib.hid M7
      clear M7 e8
      go_wp2_with fail
      go_region
      all_goals go_wp2_with fail
      all_goals go_roundw
      all_goals first
        | (case rel => exact ⟨k + 1, by omega, by go_num, by rw [hw1.out]; exact M8⟩)
        | (case measure => simp [intOf]; omega)
    · obtain rfl : k = 100 := by omega
      have e3 : acells .i16 100 (fun j => if j < 100 then lossN f g j else 0) = acells .i16 100 (lossN f g) := acells_congr (fun i hi => by rw [if_pos hi])
      have M3 := hM.out
      rw [e3] at M3
      go_wp2_with (first
        | (refine wpList_load_row rfl 25 _ rfl d rfl 25 _ (0, 0) _ (M3.at 1 rfl) Tryd.underlying25 rfl (by rw [acells_size]; exact sizeS) ?_)
        | (refine wpList_store_row rfl 25 _ _ rfl w.heap.size (acells .i16 100 (lossN f g)) rfl rfl 25 _ (M3.at 0 rfl) (by rw [acells_size]; exact sizeS) (by rw [acells_size, acells_size]) (acells_one _ _ _) ?_))
      have M4 := M3.row 0 rfl (acells .i16 100 (lossN f g))
      exact bodyPost_ret (results_cell_row rfl _ _ w.heap.size 25 _ _ _ rfl (M4.at 0 rfl) Tryd.underlying25 rfl (by rw [acells_size]; exact sizeS)) rfl ⟨rfl, M4.below⟩
end Go.Proofs.YtgnfpmpjmliegaaDoor
