/-
  A group of cells that are apart: what it takes.
-/
import Derived.Test.YtidddepdjokjcaaDoorCov
import Derived.Test.YtidddepdjokjcaaDoorSetB
import Derived.Test.YtidddepdjokjcaaDoorRowsL
namespace Go.Proofs.YtidddepdjokjcaaDoor
open Go Go.RowKit
attribute [local go_sem] Oper.semAt_some

/-- Whether a number is in the first n. -/
def inL (g : Nat → Int) (n : Nat) (c : Int) : Bool := !allTo n (fun i => g i != c)
theorem inL_no {g : Nat → Int} {n : Nat} {c : Int} (h : ∀ j, j < n → g j ≠ c) : inL g n c = false := by
  unfold inL; rw [allTo_iff.2 (fun j hj => by simpa using h j hj)]; rfl
theorem inL_yes {g : Nat → Int} {n : Nat} {c : Int} {k : Nat} (hk : k < n) (h : g k = c) : inL g n c = true := by
  unfold inL; rw [allTo_false hk (by simp [h])]; rfl
set_option maxRecDepth 100000 in
set_option maxHeartbeats 4000000 in
theorem index_any (n : Nat) (hn : n ≤ 2 ^ 40) (g : Nat → Int) (c : Int) (p : Option Addr) (cp : Nat) (w : World) (J : InJ w p n g) :
    Calls Tryd.prog 75 #[.slice p n cp, .int .i64 c] w fun e w' => (∃ v : Int, e = .returned (.int .i64 v) ∧ decide (v ≥ 0) = inL g n c) ∧ w = w' := by
  have HJ := Lib.hid J
  clear J
  go_enter Tryd.func75, Tryd.ntmps75
  go_wp2_with fail
  go_loop [8] (fun i => ∃ k : Nat, k ≤ n ∧ i = .int .i64 k ∧ Hid (∀ j, j < k → g j ≠ c)) (fun i => n - (intOf i).toNat)
  case atStart => exact ⟨0, by omega, rfl, Lib.hid (fun j hj => absurd hj (by omega))⟩
  case round =>
    obtain ⟨k, hk, rfl, hall⟩ := hrel
    by_cases hlt : k < n
    · rcases HJ.out with hz | ⟨lb, lo, rfl, J3⟩
      · omega
      · have c0 := J3 k hlt
        obtain ⟨y, hy⟩ : ∃ y, g k = y := ⟨_, rfl⟩
        rw [hy] at c0
        by_cases hcy : c = y
        · have hyes : Hid (inL g n c = true) := Lib.hid (inL_yes hlt (hy.trans hcy.symm))
          have hd : (c == y) = true := by simp [hcy]
          clear hy hcy
          go_wp2_with fail
          go_ret
          exact ⟨⟨_, rfl, by rw [hyes.out]; simp⟩, rfl⟩
        · have hno : Hid (g k ≠ c) := Lib.hid (by rw [hy]; exact fun e => hcy e.symm)
          have hd : (c == y) = false := by simp [hcy]
          clear hy hcy
          go_wp2_with fail
          go_round
          case rel => exact ⟨k + 1, by omega, by go_num, Lib.hid (fun j hj => by
            by_cases e : j = k
            · subst e; exact hno.out
            · exact hall.out j (by omega))⟩
          case measure => simp [intOf]; omega
    · obtain rfl : k = n := by omega
      have hno : Hid (inL g k c = false) := Lib.hid (inL_no hall.out)
      go_wp2_with fail
      go_ret
      exact ⟨⟨_, rfl, by rw [hno.out]; decide⟩, rfl⟩
set_option maxRecDepth 100000 in
theorem contains_any (n : Nat) (hn : n ≤ 2 ^ 40) (g : Nat → Int) (c : Int) (p : Option Addr) (cp : Nat) (w : World) (J : InJ w p n g) :
    Calls Tryd.prog 60 #[.slice p n cp, .int .i64 c] w fun e w' => e = .returned (.bool (inL g n c)) ∧ w = w' := by
  have HJ := Lib.hid J
  clear J
  go_enter Tryd.func60, Tryd.ntmps60
  go_wp2_with (go_at_call 75; refine (index_any n hn g c p cp _ HJ.out).mono ?_; rintro e w' ⟨⟨v, rfl, hv⟩, rfl⟩)
  go_ret
  exact ⟨by rw [← hv]; rfl, rfl⟩
theorem load_ints (b off : Nat) (p : Option Addr) (n cp : Nat) (w : World) (c : w.cell? ⟨b, off, none⟩ = some (.slice p n cp)) : (Instr.loadAt 30 (.pointer (some ⟨b, off, none⟩))).run Tryd.prog w = .ok (.slice p n cp) w := by
  simp [go_sem, c]
theorem bothT (f g : Nat → Int) (hf : N100 f) (hg : U64 g) (w : World) : Calls Tryd.prog 61 #[.agg (acells .u64 2 f), .agg (acells .u64 2 g)] w fun e w' => e = .returned (.agg (acells .u64 2 (joinC .and f g))) ∧ Below w.heap.size w w' := by
  rw [← opC_join (and_N100 hf hg)]; exact implBothOf f g w
theorem unionT (f g : Nat → Int) (hf : N100 f) (hg : N100 g) (w : World) : Calls Tryd.prog 51 #[.agg (acells .u64 2 f), .agg (acells .u64 2 g)] w fun e w' => e = .returned (.agg (acells .u64 2 (joinC .or f g))) ∧ Below w.heap.size w w' := by
  rw [← opC_join (or_N100 hf hg)]; exact implUnionOf f g w
theorem run_neqT {P : Program} (t : TypeId) (xs ys : Array Value) (r : Bool) (w : World) (x y : Operand) (hm : P.eqGuardType P.depth t = false) (hr : (Op.equalIn 10000 t (.agg xs) (.agg ys)).run P w = .ok r w) :
    (do eqGuard .neq t x y (.agg xs) (.agg ys); binOp .neq t (.agg xs) (.agg ys) : Sem Value).run P w = .ok (.bool (!r)) w := by
  rw [Sem.run_bind, run_eqGuard_agg w .neq t x y xs ys hm, Result.andThen_ok, run_neq_struct w t xs ys, hr]
  rfl
theorem rel_neqT {P : Program} {ops : Array Oper} {C : World → Prop} {l : List OpD} {Q : Act → Left → Prop} {o : Oper} {rest : List Oper} {k : Nat} {a : Act} {g : Left} (t t' : TypeId) (x y : Operand) (ho : o.op = .binOp .neq t x y t') (xs ys : Array Value) (hx : a.eval x = .agg xs) (hy : a.eval y = .agg ys) (r : Bool) (hl : l[k]? = some (dV (.bool (!r)))) (hw : Region.wanted o (yielded ops a.tmps) = true)
    (hm : P.eqGuardType P.depth t = false) (hr : ∀ w, (Op.equalIn 10000 t (.agg xs) (.agg ys)).run P w = .ok r w)
    (h2 : ∀ x, wpRel P ops C (DL l) Q rest (k + 1) (a.put o.dst (.bool (!r))) (g.upd k x)) : wpRel P ops C (DL l) Q (o :: rest) k a g :=
  rel_val _ hl hw (fun w _ => by
    unfold execOp
    simp only [ho, hx, hy]
    rw [Sem.run_bind, run_neqT t xs ys r w x y hm (hr w), Result.andThen_ok, Sem.run_pure]) h2
/-- What a group holds: a list, a set. -/
def grp (v : Value) (u : Nat → Int) : Array Value := #[v, .int .u64 (u 0), .int .u64 (u 1)]
theorem grp_at {v : Value} (u : Nat → Int) (j : Nat) (hj : j < (acells .u64 2 u).size) : (grp v u)[1 + j]? = (acells .u64 2 u)[j]? := by
  rw [acells_size] at hj
  rw [acells_get _ _ _ _ hj]
  rcases (show j = 0 ∨ j = 1 by omega) with rfl | rfl <;> rfl
/-- All but a block and a slice's own row is as it was. -/
def Frm (w w' : World) (gb : Nat) (v : Value) : Prop := w'.os = w.os ∧ w'.tape = w.tape ∧ w'.output = w.output ∧ w.heap.size ≤ w'.heap.size ∧ ∀ k, k < w.heap.size → k ≠ gb → some k ≠ v.ownBlock → w'.heap[k]? = w.heap[k]?
theorem Frm.of_below {w w' : World} (h : Below w.heap.size w w') (gb : Nat) (v : Value) : Frm w w' gb v := ⟨h.os, h.tape, h.output, h.size, fun k hk _ _ => h.block k hk⟩
theorem Frm.trans {a b c : World} {gb : Nat} {v : Value} (h : Frm a b gb v) (k : Frm b c gb v) : Frm a c gb v :=
  ⟨k.1.trans h.1, k.2.1.trans h.2.1, k.2.2.1.trans h.2.2.1, Nat.le_trans h.2.2.2.1 k.2.2.2.1, fun i hi h1 h2 => (k.2.2.2.2 i (Nat.lt_of_lt_of_le hi h.2.2.2.1) h1 h2).trans (h.2.2.2.2 i hi h1 h2)⟩
theorem Frm.grown {a b : World} {v : Value} (h : a.grownBy b v.ownBlock) (gb : Nat) : Frm a b gb v := ⟨h.os, h.tape, h.output, h.size, fun k hk _ h2 => h.block k hk h2⟩
theorem grownBy_setAt (W : World) (b o : Nat) (v : Value) : W.grownBy (W.setCell ⟨b, o, none⟩ v) (some b) :=
  ⟨rfl, rfl, rfl, (KeepsWalks.setCell W _ v).size, fun k _ hk => Below.heap_setCell _ _ _ k (fun e => hk (by rw [e]))⟩
theorem Frm.set (w : World) (gb o : Nat) (v x : Value) : Frm w (w.setCell ⟨gb, o, none⟩ x) gb v :=
  ⟨rfl, rfl, rfl, (KeepsWalks.setCell w _ x).size, fun k _ h1 _ => Below.heap_setCell _ _ _ k h1⟩
theorem owns_belowT {w w' : World} {base : Nat} {e : TypeId} {size : Nat} {v : Value} {n : Nat} {xs : List Value} (h : w.ownsRow base e size v n xs) (hb : Below w.heap.size w w') : w'.ownsRow base e size v n xs :=
  ⟨h.1, h.2.imp id fun ⟨g, cap, cur, h1, h2, h3, h4⟩ => ⟨g, cap, cur, h1, h2, (hb.block g (Array.getElem?_eq_some_iff.1 h3).1).trans h3, h4⟩⟩
theorem Blk.keptA {W W' : World} {row : Option Nat} {b : Nat} {cs : Array Value} {t : TypeId} (h : Blk W b cs t) (hg : W.grownBy W' row) (hne : some b ≠ row) : Blk W' b cs t := (hg.block b h.lt hne).trans h
theorem own_J {w : World} {base : Nat} {p : Option Addr} {cp : Nat} {R : List Int} (h : w.ownsRow base 2 1 (.slice p R.length cp) R.length (R.map (Value.int .i64))) : InJ w p R.length (fun i => R.getD i 0) := by
  obtain ⟨q, c9, e, V, _⟩ := Nown rfl h
  cases e
  exact V.j
set_option maxRecDepth 100000 in
set_option maxHeartbeats 8000000 in
/-- What is in the group, or meets it, is not taken. -/
theorem takes_no (u h : Nat → Int) (hu : N100 u) (hh : N100 h) (q : Bool) (hq : q = true ↔ (joinC .and u h 0 = 0 ∧ joinC .and u h 1 = 0)) (R : List Int) (hR : R.length ≤ 2 ^ 40) (c : Int) (hno : (inL (fun i => R.getD i 0) R.length c || !q) = true) (n₀ gb : Nat) (v : Value) (w : World) (B : Blk w gb (grp v u) 68) (hO : w.ownsRow n₀ 2 1 v R.length (R.map (Value.int .i64))) :
    Calls Tryd.prog 34 #[.pointer (some ⟨gb, 0, none⟩), .int .i64 c, .agg (acells .u64 2 h)] w fun e w' => e = .returned (.bool false) ∧ Below w.heap.size w w' := by
  have hzr : ∀ w : World, (zeroValue 35).run Tryd.prog w = .ok (.agg (acells .u64 2 (fun _ => 0))) w := fun w => zero_run (by kernel_rfl) w
  obtain ⟨p, cp, rfl⟩ := own_out hO
  have HJ := Lib.hid (own_J hO)
  have HB := Lib.hid B
  have HU := Lib.hid hu
  have HH := Lib.hid hh
  have HRL := Lib.hid hR
  have HQ : Hid (q = true ↔ ((joinC .and u h) 0 = (fun _ => 0 : Nat → Int) 0 ∧ (joinC .and u h) 1 = (fun _ => 0 : Nat → Int) 1)) := Lib.hid hq
  clear hO B hu hh hR hq
  cases hm : inL (fun i => R.getD i 0) R.length c with
  | true =>
    have HM := Lib.hid hm
    clear hno hm
    go_enter Tryd.func34, Tryd.ntmps34
    go_upto_region 1 with (fail)
    obtain ⟨W, hW, M⟩ := open1 w (acells .u64 2 h) 35
    rw [hW]; clear hW
    refine wp_region_rel (DL [dV (.pointer (some ⟨gb, 0, none⟩)), dV (.pointer (some ⟨gb, 0, none⟩)), dV (.pointer (some ⟨gb, 0, none⟩)), dV (.slice p R.length cp), dV (.int .i64 c), dV (.bool true), dV (.bool true), dV undef, dV undef, dV undef, dV undef, dV undef, dV undef, dV undef, dV undef, dV (.bool true)]) (fun w' => Mem w w' [⟨w.heap.size, acells .u64 2 h, 35⟩]) (by kernel_rfl) (by kernel_rfl) grows_mem
      (stays_DL (fun d hd => by
        simp only [List.mem_cons, List.mem_nil_iff, or_false] at hd
        rcases hd with rfl | rfl | rfl | rfl | rfl | rfl | rfl | rfl | rfl | rfl | rfl | rfl | rfl | rfl | rfl | rfl <;> exact stay_V)) M.drew ?_
    refine rel_val _ rfl rfl (fun _ _ => rfl) (fun _ => ?_)
    simp only [Act.put, List.setIfInBounds_toArray, List.set_cons_zero, List.set_cons_succ]
    refine rel_val (.pointer (some ⟨gb, 0, none⟩)) rfl rfl (fun _ _ => by simp [execOp, go_sem]) (fun _ => ?_)
    simp only [Act.put, List.setIfInBounds_toArray, List.set_cons_zero, List.set_cons_succ]
    refine rel_val (.pointer (some ⟨gb, 0, none⟩)) rfl rfl (fun _ _ => by simp [execOp, go_sem]) (fun _ => ?_)
    simp only [Act.put, List.setIfInBounds_toArray, List.set_cons_zero, List.set_cons_succ]
    refine rel_cell 30 _ rfl gb 0 rfl (.slice p R.length cp) rfl rfl (fun w' c => load_ints _ _ _ _ _ w' c) (fun w' hw' => (HB.out.later hw'.below).cell (i := 0) rfl) (fun _ => ?_)
    simp only [Act.put, List.setIfInBounds_toArray, List.set_cons_zero, List.set_cons_succ]
    refine rel_val _ rfl rfl (fun _ _ => rfl) (fun _ => ?_)
    simp only [Act.put, List.setIfInBounds_toArray, List.set_cons_zero, List.set_cons_succ]
    refine rel_call (.bool true) 60 #[.slice p R.length cp, .int .i64 c] rfl rfl rfl rfl (enters_of Tryd.func60 (by kernel_rfl) rfl) (fun w' hw' => (contains_any R.length HRL.out (fun i => R.getD i 0) c p cp w' (HJ.out.later hw'.below)).mono (fun e w2 h => ⟨by rw [h.1, HM.out], by rw [← h.2]; exact Below.refl _ _⟩)) (fun _ => ?_)
    simp only [Act.put, List.setIfInBounds_toArray, List.set_cons_zero, List.set_cons_succ]
    refine rel_val _ rfl rfl (fun _ _ => rfl) (fun _ => ?_)
    simp only [Act.put, List.setIfInBounds_toArray, List.set_cons_zero, List.set_cons_succ]
    refine rel_skip rfl ?_
    simp only [Act.put, List.setIfInBounds_toArray, List.set_cons_zero, List.set_cons_succ]
    refine rel_skip rfl ?_
    simp only [Act.put, List.setIfInBounds_toArray, List.set_cons_zero, List.set_cons_succ]
    refine rel_skip rfl ?_
    simp only [Act.put, List.setIfInBounds_toArray, List.set_cons_zero, List.set_cons_succ]
    refine rel_skip rfl ?_
    simp only [Act.put, List.setIfInBounds_toArray, List.set_cons_zero, List.set_cons_succ]
    refine rel_skip rfl ?_
    simp only [Act.put, List.setIfInBounds_toArray, List.set_cons_zero, List.set_cons_succ]
    refine rel_skip rfl ?_
    simp only [Act.put, List.setIfInBounds_toArray, List.set_cons_zero, List.set_cons_succ]
    refine rel_skip rfl ?_
    simp only [Act.put, List.setIfInBounds_toArray, List.set_cons_zero, List.set_cons_succ]
    refine rel_skip rfl ?_
    simp only [Act.put, List.setIfInBounds_toArray, List.set_cons_zero, List.set_cons_succ]
    refine rel_val _ rfl rfl (fun _ _ => rfl) (fun _ => ?_)
    simp only [Act.put, List.setIfInBounds_toArray, List.set_cons_zero, List.set_cons_succ]
    refine rel_nil (fun W2 inv => ?_)
    have M2 := inv.cls
    clear inv
    go_wp2_with fail
    go_ret
    exact ⟨rfl, M2.below⟩
  | false =>
    have HM := Lib.hid hm
    obtain rfl : q = false := by rw [hm] at hno; simpa using hno
    clear hno hm
    go_enter Tryd.func34, Tryd.ntmps34
    go_upto_region 1 with (fail)
    obtain ⟨W, hW, M⟩ := open1 w (acells .u64 2 h) 35
    rw [hW]; clear hW
    refine wp_region_rel (DL [dV (.pointer (some ⟨gb, 0, none⟩)), dV (.pointer (some ⟨gb, 0, none⟩)), dV (.pointer (some ⟨gb, 0, none⟩)), dV (.slice p R.length cp), dV (.int .i64 c), dV (.bool false), dV (.bool false), dV (.pointer (some ⟨gb, 0, none⟩)), dV (.pointer (some ⟨gb, 0, none⟩)), dV (.pointer (some ⟨gb, 1, none⟩)), dV (.agg (acells .u64 2 u)), dV (.agg (acells .u64 2 h)), dV (.agg (acells .u64 2 (joinC .and u h))), dV (.agg (acells .u64 2 (fun _ => 0))), dV (.bool (!false)), dV (.bool (!false))]) (fun w' => Mem w w' [⟨w.heap.size, acells .u64 2 h, 35⟩]) (by kernel_rfl) (by kernel_rfl) grows_mem
      (stays_DL (fun d hd => by
        simp only [List.mem_cons, List.mem_nil_iff, or_false] at hd
        rcases hd with rfl | rfl | rfl | rfl | rfl | rfl | rfl | rfl | rfl | rfl | rfl | rfl | rfl | rfl | rfl | rfl <;> exact stay_V)) M.drew ?_
    refine rel_val _ rfl rfl (fun _ _ => rfl) (fun _ => ?_)
    simp only [Act.put, List.setIfInBounds_toArray, List.set_cons_zero, List.set_cons_succ]
    refine rel_val (.pointer (some ⟨gb, 0, none⟩)) rfl rfl (fun _ _ => by simp [execOp, go_sem]) (fun _ => ?_)
    simp only [Act.put, List.setIfInBounds_toArray, List.set_cons_zero, List.set_cons_succ]
    refine rel_val (.pointer (some ⟨gb, 0, none⟩)) rfl rfl (fun _ _ => by simp [execOp, go_sem]) (fun _ => ?_)
    simp only [Act.put, List.setIfInBounds_toArray, List.set_cons_zero, List.set_cons_succ]
    refine rel_cell 30 _ rfl gb 0 rfl (.slice p R.length cp) rfl rfl (fun w' c => load_ints _ _ _ _ _ w' c) (fun w' hw' => (HB.out.later hw'.below).cell (i := 0) rfl) (fun _ => ?_)
    simp only [Act.put, List.setIfInBounds_toArray, List.set_cons_zero, List.set_cons_succ]
    refine rel_val _ rfl rfl (fun _ _ => rfl) (fun _ => ?_)
    simp only [Act.put, List.setIfInBounds_toArray, List.set_cons_zero, List.set_cons_succ]
    refine rel_call (.bool false) 60 #[.slice p R.length cp, .int .i64 c] rfl rfl rfl rfl (enters_of Tryd.func60 (by kernel_rfl) rfl) (fun w' hw' => (contains_any R.length HRL.out (fun i => R.getD i 0) c p cp w' (HJ.out.later hw'.below)).mono (fun e w2 h => ⟨by rw [h.1, HM.out], by rw [← h.2]; exact Below.refl _ _⟩)) (fun _ => ?_)
    simp only [Act.put, List.setIfInBounds_toArray, List.set_cons_zero, List.set_cons_succ]
    refine rel_val _ rfl rfl (fun _ _ => rfl) (fun _ => ?_)
    simp only [Act.put, List.setIfInBounds_toArray, List.set_cons_zero, List.set_cons_succ]
    refine rel_val _ rfl rfl (fun _ _ => rfl) (fun _ => ?_)
    simp only [Act.put, List.setIfInBounds_toArray, List.set_cons_zero, List.set_cons_succ]
    refine rel_val (.pointer (some ⟨gb, 0, none⟩)) rfl rfl (fun _ _ => by simp [execOp, go_sem]) (fun _ => ?_)
    simp only [Act.put, List.setIfInBounds_toArray, List.set_cons_zero, List.set_cons_succ]
    refine rel_val (.pointer (some ⟨gb, 1, none⟩)) rfl rfl (fun _ _ => by simp [execOp, go_sem]) (fun _ => ?_)
    simp only [Act.put, List.setIfInBounds_toArray, List.set_cons_zero, List.set_cons_succ]
    refine rel_load 35 _ rfl gb 1 rfl (acells .u64 2 u) _ rfl rfl (fun w' hw' => (HB.out.later hw'.below).range 1 (fun j hj => grp_at u j hj)) Tryd.underlying35 rfl (by rw [acells_size]; exact sizeC) (fun _ => ?_)
    simp only [Act.put, List.setIfInBounds_toArray, List.set_cons_zero, List.set_cons_succ]
    refine rel_load 35 _ rfl w.heap.size 0 rfl (acells .u64 2 h) _ rfl rfl (fun w' hw' => (hw'.at 0 rfl).whole) Tryd.underlying35 rfl (by rw [acells_size]; exact sizeC) (fun _ => ?_)
    simp only [Act.put, List.setIfInBounds_toArray, List.set_cons_zero, List.set_cons_succ]
    refine rel_call (.agg (acells .u64 2 (joinC .and u h))) 61 #[.agg (acells .u64 2 u), .agg (acells .u64 2 h)] rfl rfl rfl rfl (enters_of Tryd.func61 (by kernel_rfl) rfl) (fun w' _ => bothT u h HU.out HH.out.1 w') (fun _ => ?_)
    simp only [Act.put, List.setIfInBounds_toArray, List.set_cons_zero, List.set_cons_succ]
    refine rel_val (.agg (acells .u64 2 (fun _ => 0))) rfl rfl (fun _ _ => by simp [execOp, go_sem, hzr]) (fun _ => ?_)
    simp only [Act.put, List.setIfInBounds_toArray, List.set_cons_zero, List.set_cons_succ]
    refine rel_neqT 35 _ _ _ rfl (acells .u64 2 (joinC .and u h)) (acells .u64 2 (fun _ => 0)) rfl rfl false rfl rfl (by kernel_rfl) (fun w' => run_eqC _ _ (and_u64 HU.out.1 HH.out.1) (fun _ => by simp) false HQ.out w') (fun _ => ?_)
    simp only [Act.put, List.setIfInBounds_toArray, List.set_cons_zero, List.set_cons_succ]
    refine rel_val _ rfl rfl (fun _ _ => rfl) (fun _ => ?_)
    simp only [Act.put, List.setIfInBounds_toArray, List.set_cons_zero, List.set_cons_succ]
    refine rel_nil (fun W2 inv => ?_)
    have M2 := inv.cls
    clear inv
    go_wp2_with fail
    go_ret
    exact ⟨rfl, M2.below⟩
set_option maxRecDepth 100000 in
set_option maxHeartbeats 8000000 in
/-- What is neither in the group nor meets it is taken. -/
theorem takes_yes (u h : Nat → Int) (hu : N100 u) (hh : N100 h) (hq : joinC .and u h 0 = 0 ∧ joinC .and u h 1 = 0) (R : List Int) (hR : R.length ≤ 2 ^ 39) (c : Int) (hm : inL (fun i => R.getD i 0) R.length c = false) (n₀ gb : Nat) (v : Value) (w : World) (hn₀ : n₀ ≤ w.heap.size) (B : Blk w gb (grp v u) 68) (hO : w.ownsRow n₀ 2 1 v R.length (R.map (Value.int .i64))) :
    Calls Tryd.prog 34 #[.pointer (some ⟨gb, 0, none⟩), .int .i64 c, .agg (acells .u64 2 h)] w fun e w' => ∃ v', e = .returned (.bool true) ∧ Blk w' gb (grp v' (joinC .or u h)) 68 ∧ w'.ownsRow n₀ 2 1 v' (R ++ [c]).length ((R ++ [c]).map (Value.int .i64)) ∧ Frm w w' gb v := by
  have hfr := Lib.hid (fun (a : World) (b : World) (hg : a.grownBy b v.ownBlock) => Frm.grown hg gb)
  have hfb := Lib.hid (fun (a : World) (b : World) (hg : Below a.heap.size a b) => Frm.of_below hg gb v)
  have hfs := Lib.hid (fun (a : World) (o : Nat) (x : Value) => Frm.set a gb o v x)
  have hzr : ∀ w : World, (zeroValue 35).run Tryd.prog w = .ok (.agg (acells .u64 2 (fun _ => 0))) w := fun w => zero_run (by kernel_rfl) w
  obtain ⟨p, cp, rfl⟩ := own_out hO
  have HJ := Lib.hid (own_J hO)
  have HB := Lib.hid B
  have HO := Lib.hid hO
  have HU := Lib.hid hu
  have HH := Lib.hid hh
  have HM := Lib.hid hm
  have HN := Lib.hid hn₀
  have HRL : Hid (R.length ≤ 2 ^ 40) := Lib.hid (by omega)
  have HQ : Hid (true = true ↔ ((joinC .and u h) 0 = (fun _ => 0 : Nat → Int) 0 ∧ (joinC .and u h) 1 = (fun _ => 0 : Nat → Int) 1)) := Lib.hid ⟨fun _ => hq, fun _ => rfl⟩
  obtain ⟨i0, hi, hz0, hz1, hz2⟩ := info_parts infoI64
  clear hO B hu hh hq hm hn₀
  go_enter Tryd.func34, Tryd.ntmps34
  go_upto_region 1 with (fail)
  obtain ⟨W, hW, M⟩ := open1 w (acells .u64 2 h) 35
  rw [hW]; clear hW
  refine wp_region_rel (DL [dV (.pointer (some ⟨gb, 0, none⟩)), dV (.pointer (some ⟨gb, 0, none⟩)), dV (.pointer (some ⟨gb, 0, none⟩)), dV (.slice p R.length cp), dV (.int .i64 c), dV (.bool false), dV (.bool false), dV (.pointer (some ⟨gb, 0, none⟩)), dV (.pointer (some ⟨gb, 0, none⟩)), dV (.pointer (some ⟨gb, 1, none⟩)), dV (.agg (acells .u64 2 u)), dV (.agg (acells .u64 2 h)), dV (.agg (acells .u64 2 (joinC .and u h))), dV (.agg (acells .u64 2 (fun _ => 0))), dV (.bool (!true)), dV (.bool (!true))]) (fun w' => Mem w w' [⟨w.heap.size, acells .u64 2 h, 35⟩]) (by kernel_rfl) (by kernel_rfl) grows_mem
    (stays_DL (fun d hd => by
      simp only [List.mem_cons, List.mem_nil_iff, or_false] at hd
      rcases hd with rfl | rfl | rfl | rfl | rfl | rfl | rfl | rfl | rfl | rfl | rfl | rfl | rfl | rfl | rfl | rfl <;> exact stay_V)) M.drew ?_
  refine rel_val _ rfl rfl (fun _ _ => rfl) (fun _ => ?_)
  simp only [Act.put, List.setIfInBounds_toArray, List.set_cons_zero, List.set_cons_succ]
  refine rel_val (.pointer (some ⟨gb, 0, none⟩)) rfl rfl (fun _ _ => by simp [execOp, go_sem]) (fun _ => ?_)
  simp only [Act.put, List.setIfInBounds_toArray, List.set_cons_zero, List.set_cons_succ]
  refine rel_val (.pointer (some ⟨gb, 0, none⟩)) rfl rfl (fun _ _ => by simp [execOp, go_sem]) (fun _ => ?_)
  simp only [Act.put, List.setIfInBounds_toArray, List.set_cons_zero, List.set_cons_succ]
  refine rel_cell 30 _ rfl gb 0 rfl (.slice p R.length cp) rfl rfl (fun w' c => load_ints _ _ _ _ _ w' c) (fun w' hw' => (HB.out.later hw'.below).cell (i := 0) rfl) (fun _ => ?_)
  simp only [Act.put, List.setIfInBounds_toArray, List.set_cons_zero, List.set_cons_succ]
  refine rel_val _ rfl rfl (fun _ _ => rfl) (fun _ => ?_)
  simp only [Act.put, List.setIfInBounds_toArray, List.set_cons_zero, List.set_cons_succ]
  refine rel_call (.bool false) 60 #[.slice p R.length cp, .int .i64 c] rfl rfl rfl rfl (enters_of Tryd.func60 (by kernel_rfl) rfl) (fun w' hw' => (contains_any R.length HRL.out (fun i => R.getD i 0) c p cp w' (HJ.out.later hw'.below)).mono (fun e w2 h => ⟨by rw [h.1, HM.out], by rw [← h.2]; exact Below.refl _ _⟩)) (fun _ => ?_)
  simp only [Act.put, List.setIfInBounds_toArray, List.set_cons_zero, List.set_cons_succ]
  refine rel_val _ rfl rfl (fun _ _ => rfl) (fun _ => ?_)
  simp only [Act.put, List.setIfInBounds_toArray, List.set_cons_zero, List.set_cons_succ]
  refine rel_val _ rfl rfl (fun _ _ => rfl) (fun _ => ?_)
  simp only [Act.put, List.setIfInBounds_toArray, List.set_cons_zero, List.set_cons_succ]
  refine rel_val (.pointer (some ⟨gb, 0, none⟩)) rfl rfl (fun _ _ => by simp [execOp, go_sem]) (fun _ => ?_)
  simp only [Act.put, List.setIfInBounds_toArray, List.set_cons_zero, List.set_cons_succ]
  refine rel_val (.pointer (some ⟨gb, 1, none⟩)) rfl rfl (fun _ _ => by simp [execOp, go_sem]) (fun _ => ?_)
  simp only [Act.put, List.setIfInBounds_toArray, List.set_cons_zero, List.set_cons_succ]
  refine rel_load 35 _ rfl gb 1 rfl (acells .u64 2 u) _ rfl rfl (fun w' hw' => (HB.out.later hw'.below).range 1 (fun j hj => grp_at u j hj)) Tryd.underlying35 rfl (by rw [acells_size]; exact sizeC) (fun _ => ?_)
  simp only [Act.put, List.setIfInBounds_toArray, List.set_cons_zero, List.set_cons_succ]
  refine rel_load 35 _ rfl w.heap.size 0 rfl (acells .u64 2 h) _ rfl rfl (fun w' hw' => (hw'.at 0 rfl).whole) Tryd.underlying35 rfl (by rw [acells_size]; exact sizeC) (fun _ => ?_)
  simp only [Act.put, List.setIfInBounds_toArray, List.set_cons_zero, List.set_cons_succ]
  refine rel_call (.agg (acells .u64 2 (joinC .and u h))) 61 #[.agg (acells .u64 2 u), .agg (acells .u64 2 h)] rfl rfl rfl rfl (enters_of Tryd.func61 (by kernel_rfl) rfl) (fun w' _ => bothT u h HU.out HH.out.1 w') (fun _ => ?_)
  simp only [Act.put, List.setIfInBounds_toArray, List.set_cons_zero, List.set_cons_succ]
  refine rel_val (.agg (acells .u64 2 (fun _ => 0))) rfl rfl (fun _ _ => by simp [execOp, go_sem, hzr]) (fun _ => ?_)
  simp only [Act.put, List.setIfInBounds_toArray, List.set_cons_zero, List.set_cons_succ]
  refine rel_neqT 35 _ _ _ rfl (acells .u64 2 (joinC .and u h)) (acells .u64 2 (fun _ => 0)) rfl rfl true rfl rfl (by kernel_rfl) (fun w' => run_eqC _ _ (and_u64 HU.out.1 HH.out.1) (fun _ => by simp) true HQ.out w') (fun _ => ?_)
  simp only [Act.put, List.setIfInBounds_toArray, List.set_cons_zero, List.set_cons_succ]
  refine rel_val _ rfl rfl (fun _ _ => rfl) (fun _ => ?_)
  simp only [Act.put, List.setIfInBounds_toArray, List.set_cons_zero, List.set_cons_succ]
  refine rel_nil (fun W2 inv => ?_)
  have M2 := inv.cls
  clear inv
  have B2 := HB.out.later M2.below
  have O2 := owns_belowT HO.out M2.below
  have hs2 := M2.below.size
  have F2 := Lib.hid (hfb.out _ _ M2.below)
  have T2 := Lib.hid (M2.at 0 rfl)
  have N2 := HN.out
  have c0 := B2.cell (i := 0) (v := .slice p R.length cp) rfl
  clear M2
  go_upto_region 4 with (at_builtin; refine wpList_append_own _ rfl _ _ 30 rfl n₀ 2 i0 (.int .i64 0) 1 8 Tryd.underlying30 hi hz0 hz1 hz2 rfl (by decide) _ _ _ rfl (O2.alloc _) ⟨W2.heap.size, 0, none⟩ 1 1 [.int .i64 c] rfl rfl (cell_one_new _ _ _) (by intro u hu; simp at hu; subst hu; rfl) (by unfold maxLen; omega) (by omega) (by simp; omega) ?_; intro v' w1 hown' hgrow _; obtain ⟨p', cp', rfl⟩ := own_out hown'; have B3 := (B2.alloc (.cells #[.int .i64 c] 2)).keptA hgrow ((B2.alloc (.cells #[.int .i64 c] 2)).not_row (by decide) (O2.alloc _)); have T3 := (T2.out.alloc (.cells #[.int .i64 c] 2)).keptA hgrow ((T2.out.alloc (.cells #[.int .i64 c] 2)).not_row (by decide) (O2.alloc _)); have c3 := B3.cell (i := 0) (v := .slice p R.length cp) rfl; have f3 := B3.free 0; have F3 := Lib.hid ((hfb.out _ _ ((Below.refl _ W2).alloc (Nat.le_refl _) (.cells #[.int .i64 c] 2))).trans (hfr.out _ _ hgrow)))
  have hgl := HB.out.lt
  have B4 : Blk (w1.setCell ⟨gb, 0, none⟩ (.slice p' (R.length + 1) cp')) gb (grp (.slice p' (R.length + 1) cp') u) 68 := B3.set 0 _
  have T4 := T3.setOther (a := ⟨gb, 0, none⟩) (.slice p' (R.length + 1) cp') (show w.heap.size ≠ gb by omega)
  have O4 := hown'.kept (grownBy_setAt w1 gb 0 (.slice p' (R.length + 1) cp')) (.inr (B3.not_row (by decide) hown').symm)
  have F4 := Lib.hid ((F2.out.trans F3.out).trans (hfs.out w1 0 (.slice p' (R.length + 1) cp')))
  generalize w1.setCell _ _ = W4 at B4 T4 O4 F4 ⊢
  clear hown' hgrow B3 T3 c3 f3 F3 O2 B2 T2 F2 c0
  have H4 := Lib.hid (And.intro B4 T4)
  refine wp_region_rel_tail 9 (DL [dV (.pointer (some ⟨gb, 0, none⟩)), dV (.pointer (some ⟨gb, 0, none⟩)), dV (.pointer (some ⟨gb, 0, none⟩)), dV (.pointer (some ⟨gb, 1, none⟩)), dV (.agg (acells .u64 2 u)), dV (.agg (acells .u64 2 h)), dV (.agg #[.int .u64 (joinC .or u h 0), .int .u64 (joinC .or u h 1)]), dV (.pointer (some ⟨gb, 0, none⟩)), dV (.pointer (some ⟨gb, 1, none⟩))]) (fun w' => Mem W4 w' []) (by kernel_rfl) (by kernel_rfl) grows_mem
    (stays_DL (fun d hd => by
      simp only [List.mem_cons, List.mem_nil_iff, or_false] at hd
      rcases hd with rfl | rfl | rfl | rfl | rfl | rfl | rfl | rfl | rfl <;> exact stay_V)) (Mem.nil W4).drew ?_
  refine rel_val _ rfl rfl (fun _ _ => rfl) (fun _ => ?_)
  simp only [Act.put, List.setIfInBounds_toArray, List.set_cons_zero, List.set_cons_succ]
  refine rel_val _ rfl rfl (fun _ _ => rfl) (fun _ => ?_)
  simp only [Act.put, List.setIfInBounds_toArray, List.set_cons_zero, List.set_cons_succ]
  refine rel_val (.pointer (some ⟨gb, 0, none⟩)) rfl rfl (fun _ _ => by simp [execOp, go_sem]) (fun _ => ?_)
  simp only [Act.put, List.setIfInBounds_toArray, List.set_cons_zero, List.set_cons_succ]
  refine rel_val (.pointer (some ⟨gb, 1, none⟩)) rfl rfl (fun _ _ => by simp [execOp, go_sem]) (fun _ => ?_)
  simp only [Act.put, List.setIfInBounds_toArray, List.set_cons_zero, List.set_cons_succ]
  refine rel_load 35 _ rfl gb 1 rfl (acells .u64 2 u) _ rfl rfl (fun w' hw' => (H4.out.1.later hw'.below).range 1 (fun j hj => grp_at u j hj)) Tryd.underlying35 rfl (by rw [acells_size]; exact sizeC) (fun _ => ?_)
  simp only [Act.put, List.setIfInBounds_toArray, List.set_cons_zero, List.set_cons_succ]
  refine rel_load 35 _ rfl w.heap.size 0 rfl (acells .u64 2 h) _ rfl rfl (fun w' hw' => (H4.out.2.later hw'.below).whole) Tryd.underlying35 rfl (by rw [acells_size]; exact sizeC) (fun _ => ?_)
  simp only [Act.put, List.setIfInBounds_toArray, List.set_cons_zero, List.set_cons_succ]
  refine rel_call (.agg #[.int .u64 (joinC .or u h 0), .int .u64 (joinC .or u h 1)]) 51 #[.agg (acells .u64 2 u), .agg (acells .u64 2 h)] rfl rfl rfl rfl (enters_of Tryd.func51 (by kernel_rfl) rfl) (fun w' _ => unionT u h HU.out HH.out w') (fun _ => ?_)
  simp only [Act.put, List.setIfInBounds_toArray, List.set_cons_zero, List.set_cons_succ]
  refine rel_val (.pointer (some ⟨gb, 0, none⟩)) rfl rfl (fun _ _ => by simp [execOp, go_sem]) (fun _ => ?_)
  simp only [Act.put, List.setIfInBounds_toArray, List.set_cons_zero, List.set_cons_succ]
  refine rel_val (.pointer (some ⟨gb, 1, none⟩)) rfl rfl (fun _ _ => by simp [execOp, go_sem]) (fun _ => ?_)
  simp only [Act.put, List.setIfInBounds_toArray, List.set_cons_zero, List.set_cons_succ]
  refine rel_nil (fun W5 inv => ?_)
  have M5 := inv.cls.below
  clear inv
  have B5 := B4.later M5
  have O5 := Lib.hid (owns_belowT O4 M5)
  have F5 := Lib.hid (F4.out.trans (hfb.out _ _ M5))
  change wpList _ _ _ (_ :: []) _ _
  have d1 := B5.cell (i := 1) (v := .int .u64 (u 0)) rfl
  have d2 := B5.cell (i := 2) (v := .int .u64 (u 1)) rfl
  have e1 := B5.free 1
  have e2 := B5.free 2
  clear B4 T4 O4 M5
  go_wp2_with fail
  go_ret
  have B6 := (B5.set 1 (.int .u64 (joinC .or u h 0))).set 2 (.int .u64 (joinC .or u h 1))
  have O6 := (O5.out.kept (grownBy_setAt W5 gb 1 (.int .u64 (joinC .or u h 0))) (.inr (B5.not_row (by decide) O5.out).symm)).kept (grownBy_setAt _ gb 2 (.int .u64 (joinC .or u h 1))) (.inr ((B5.set 1 (.int .u64 (joinC .or u h 0))).not_row (by decide) (O5.out.kept (grownBy_setAt W5 gb 1 (.int .u64 (joinC .or u h 0))) (.inr (B5.not_row (by decide) O5.out).symm))).symm)
  have F6 := (F5.out.trans (hfs.out W5 1 (.int .u64 (joinC .or u h 0)))).trans (hfs.out _ 2 (.int .u64 (joinC .or u h 1)))
  exact ⟨rfl, _, B6, O6, F6⟩
end Go.Proofs.YtidddepdjokjcaaDoor
