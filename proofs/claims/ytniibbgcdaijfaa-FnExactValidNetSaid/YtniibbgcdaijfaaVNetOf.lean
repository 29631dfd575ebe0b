/-
  Whether a net is valid for a field: the model's, the program's.
-/
import Derived.Test.YtniibbgcdaijfaaNetG
import Derived.Test.YtniibbgcdaijfaaValid
import Derived.Test.YtniibbgcdaijfaaRegE
namespace Go.Proofs.Ytniibbgcdaijfaa
open Go Go.RowKit

set_option maxRecDepth 100000 in
set_option maxHeartbeats 1000000 in
theorem specValidNet (f : Fd) (hf : f.Wf) (a : Nat → Int) (ha : WfN a) (w : World) : Calls Try.prog 5 #[.agg (fcells f), vNet a] w fun e w' => e = .returned (.bool (okF f && netOk f a)) ∧ Below w.heap.size w w' := by
  cases hok : okF f with
  | false =>
    go_enter Try.func5, Try.ntmps5
    go_upto_region 1 with (fail)
    obtain ⟨W, hW, M⟩ := open2 w (fcells f) 31 #[.int .i8 (a 0), .int .i8 (a 1), .int .i8 (a 2), .int .i8 (a 3)] 33
    rw [hW]; clear hW
    go_wp2_with (go_at_call 14; refine (l01Ok_any f hf w.heap.size _ (M.at 0 rfl)).mono ?_; rintro e w' ⟨rfl, rfl⟩; rw [hok]; go_wp2_with fail)
    go_ret
    exact ⟨rfl, M.below⟩
  | true =>
    go_enter Try.func5, Try.ntmps5
    go_upto_region 1 with (fail)
    obtain ⟨W, hW, M⟩ := open2 w (fcells f) 31 #[.int .i8 (a 0), .int .i8 (a 1), .int .i8 (a 2), .int .i8 (a 3)] 33
    rw [hW]; clear hW
    go_wp2_with (go_at_call 14; refine (l01Ok_any f hf w.heap.size _ (M.at 0 rfl)).mono ?_; rintro e w' ⟨rfl, rfl⟩; rw [hok]; go_wp2_with (first
      | (go_at_call 15; refine (l04Net_any f hf hok a ha w.heap.size _ (M.at 0 rfl)).mono ?_; rintro e W2 ⟨rfl, hb⟩; have M2 := M.call hb; go_wp2_with fail)
      | (refine wpList_load_wanted rfl 33 _ rfl (w.heap.size + 1) 0 rfl #[.int .i8 (a 0), .int .i8 (a 1), .int .i8 (a 2), .int .i8 (a 3)] _ (M.at 1 rfl).whole Try.underlying33 rfl (by kernel_rfl) ?_)))
    go_ret
    exact ⟨rfl, M2.below⟩
def edgeOf (f : Fd) (a : Nat → Int) : Int := if okF f && netOk f a then 2 * (a 2 + a 3) else 0
theorem edge_yes {f : Fd} {a : Nat → Int} (h : (okF f && netOk f a) = true) : edgeOf f a = 2 * (a 2 + a 3) := by unfold edgeOf; rw [h]; rfl
theorem edge_no {f : Fd} {a : Nat → Int} (h : (okF f && netOk f a) = false) : edgeOf f a = 0 := by unfold edgeOf; rw [h]; rfl

/-- A closure that a slot holds, made by an operation before. -/
theorem rel_callDynK {P : Program} {ops : Array Oper} {C : World → Prop} {l : List OpD} {Q : Act → Left → Prop} {o : Oper} {rest : List Oper} {k : Nat} {a : Act} {g : Left} (k0 : Nat) (v0 : Value) (f : FuncId) (args : Array Value) (hl : l[k]? = some (dV v0)) (hw : Region.wanted o (yielded ops a.tmps) = true) {t : Operand} {caps : Array Value} {xs : Array Operand} {tys : Array TypeId} (ho : o.op = .call { callee := .value t, args := xs, argTypes := tys }) (ht : a.eval t = .func (.func f) #[] caps) (hvs : xs.toList.map a.eval ++ caps.toList = args.toList) (he : ∀ (args : Array Value) (w : World), (callFunc f args).run P w = .ok (.enter f args) w)
    {ok : Oper} {d : Tmp} {x : Nat × Nat × (World → Prop)} (h0 : ops[k0]? = some ok) (hd : ok.dst = some d) (hin : (o.looksAt ops).contains d = true) (hx : g k0 = some x)
    (hc : ∀ w, C w → x.2.2 w → Calls P f args w (fun e w' => e = .returned v0 ∧ Below w.heap.size w w'))
    (h2 : ∀ x, wpRel P ops C (DL l) Q rest (k + 1) (a.put o.dst v0) (g.upd k x)) : wpRel P ops C (DL l) Q (o :: rest) k a g :=
  rel_stepF hw (fun w hw' hk => by
    rw [run_callDyn ho ht args hvs he w]
    exact ⟨rfl, (hc w hw' (hk k0 ok d x h0 hd (by simpa using hin) hx)).mono (fun e w' h => ⟨v0, h.1, h.2, by rw [DL_at hl]; rfl⟩)⟩) (fun v lo hi _ ⟨w, _, h⟩ => by rw [DL_at hl] at h; cases h; exact h2 _)
set_option maxRecDepth 100000 in
set_option maxHeartbeats 4000000 in
theorem implValidNet (f : Fd) (hf : f.Wf) (a : Nat → Int) (ha : WfN a) (w : World) : Calls Try.prog 8 #[.agg (fcells f), vNet a] w fun e w' => e = .returned (.bool (okF f && netOk f a)) ∧ Below w.heap.size w w' := by
  cases hok : okF f with
  | false =>
    go_enter Try.func8, Try.ntmps8
    go_upto_region 1 with (fail)
    obtain ⟨W, hW, M⟩ := open2 w (fcells f) 31 #[.int .i8 (a 0), .int .i8 (a 1), .int .i8 (a 2), .int .i8 (a 3)] 33
    rw [hW]; clear hW
    refine wp_region_rel (DL [dV (.agg (fcells f)), dV (.bool false), dV (.bool false), dV undef, dV undef, dV undef, dV undef, dV (.bool false), dV (.bool false)]) (fun w' => Mem w w' [⟨w.heap.size, fcells f, 31⟩, ⟨w.heap.size + 1, #[.int .i8 (a 0), .int .i8 (a 1), .int .i8 (a 2), .int .i8 (a 3)], 33⟩]) (by kernel_rfl) (by kernel_rfl) grows_mem
      (stays_DL (fun d hd => by
        simp only [List.mem_cons, List.mem_nil_iff, or_false] at hd
        rcases hd with rfl | rfl | rfl | rfl | rfl | rfl | rfl | rfl | rfl <;> exact stay_V)) M.drew ?_
    refine rel_load 31 _ rfl (w.heap.size) (0) rfl (fcells f) _ rfl rfl (fun w' hw' => (hw'.at 0 rfl).whole) Try.underlying31 rfl (by rw [fcells_size]; exact sizeFd) (fun _ => ?_)
    simp only [Act.put, List.setIfInBounds_toArray, List.set_cons_zero, List.set_cons_succ]
    refine rel_call (.bool false) 18 #[.agg (fcells f)] rfl rfl rfl rfl (enters_of Try.func18 (by kernel_rfl) rfl) (fun w' _ => (validField_any f hf w').mono (fun e w2 h => ⟨by rw [h.1, hok], h.2⟩)) (fun _ => ?_)
    simp only [Act.put, List.setIfInBounds_toArray, List.set_cons_zero, List.set_cons_succ]
    refine rel_val _ rfl rfl (fun _ _ => rfl) (fun _ => ?_)
    simp only [Act.put, List.setIfInBounds_toArray, List.set_cons_zero, List.set_cons_succ]
    refine rel_skip rfl ?_
    simp only [Act.put, List.setIfInBounds_toArray, List.set_cons_zero, List.set_cons_succ]
    refine rel_skip rfl ?_
    simp only [Act.put, List.setIfInBounds_toArray, List.set_cons_zero, List.set_cons_succ]
    refine rel_skip rfl ?_
    simp only [Act.put, List.setIfInBounds_toArray, List.set_cons_zero, List.set_cons_succ]
    refine rel_skip rfl ?_
    simp only [Act.put, List.setIfInBounds_toArray, List.set_cons_zero, List.set_cons_succ]
    refine rel_val _ rfl rfl (fun _ _ => rfl) (fun _ => ?_)
    simp only [Act.put, List.setIfInBounds_toArray, List.set_cons_zero, List.set_cons_succ]
    refine rel_val _ rfl rfl (fun _ _ => rfl) (fun _ => ?_)
    simp only [Act.put, List.setIfInBounds_toArray, List.set_cons_zero, List.set_cons_succ]
    refine rel_nil (fun W2 inv => ?_)
    have M2 := inv.cls
    clear inv
    go_wp2_with fail
    go_ret
    exact ⟨rfl, M2.below⟩
  | true =>
    have hW2 := (okF_size hok).2.1
    have hH2 := (okF_size hok).2.2.2
    go_enter Try.func8, Try.ntmps8
    go_upto_region 1 with (fail)
    obtain ⟨W, hW, M⟩ := open2 w (fcells f) 31 #[.int .i8 (a 0), .int .i8 (a 1), .int .i8 (a 2), .int .i8 (a 3)] 33
    rw [hW]; clear hW
    refine wp_region_rel (DL [dV (.agg (fcells f)), dV (.bool true), dV (.bool true), dV (.agg (fcells f)), dP (fun v _ _ w9 => ∃ b0 b1, v = .func (.func 35) #[] #[.pointer (some ⟨b0, 0, none⟩), .pointer (some ⟨b1, 0, none⟩)] ∧ Blk w9 b0 (fcells f) 31 ∧ Blk w9 b1 (acells .u64 2 (treeSet f)) 67), dV (.agg (#[.int .i8 (a 0), .int .i8 (a 1), .int .i8 (a 2), .int .i8 (a 3)])), dV (.bool (netOk f a)), dV (.bool (netOk f a)), dV (.bool (netOk f a))]) (fun w' => Mem w w' [⟨w.heap.size, fcells f, 31⟩, ⟨w.heap.size + 1, #[.int .i8 (a 0), .int .i8 (a 1), .int .i8 (a 2), .int .i8 (a 3)], 33⟩]) (by kernel_rfl) (by kernel_rfl) grows_mem
      (stays_DL (fun d hd => by
        simp only [List.mem_cons, List.mem_nil_iff, or_false] at hd
        rcases hd with rfl | rfl | rfl | rfl | rfl | rfl | rfl | rfl | rfl <;> first | exact stay_V | exact stay_P)) M.drew ?_
    refine rel_load 31 _ rfl (w.heap.size) (0) rfl (fcells f) _ rfl rfl (fun w' hw' => (hw'.at 0 rfl).whole) Try.underlying31 rfl (by rw [fcells_size]; exact sizeFd) (fun _ => ?_)
    simp only [Act.put, List.setIfInBounds_toArray, List.set_cons_zero, List.set_cons_succ]
    refine rel_call (.bool true) 18 #[.agg (fcells f)] rfl rfl rfl rfl (enters_of Try.func18 (by kernel_rfl) rfl) (fun w' _ => (validField_any f hf w').mono (fun e w2 h => ⟨by rw [h.1, hok], h.2⟩)) (fun _ => ?_)
    simp only [Act.put, List.setIfInBounds_toArray, List.set_cons_zero, List.set_cons_succ]
    refine rel_val _ rfl rfl (fun _ _ => rfl) (fun _ => ?_)
    simp only [Act.put, List.setIfInBounds_toArray, List.set_cons_zero, List.set_cons_succ]
    refine rel_load 31 _ rfl (w.heap.size) (0) rfl (fcells f) _ rfl rfl (fun w' hw' => (hw'.at 0 rfl).whole) Try.underlying31 rfl (by rw [fcells_size]; exact sizeFd) (fun _ => ?_)
    simp only [Act.put, List.setIfInBounds_toArray, List.set_cons_zero, List.set_cons_succ]
    refine rel_callP _ 19 #[.agg (fcells f)] rfl rfl rfl rfl (enters_of Try.func19 (by kernel_rfl) rfl) (fun w' _ => (fitFor_any f hf hok w').mono (fun e w2 h => by
      obtain ⟨b0, b1, rfl, _, _, B0, B1, hb⟩ := h
      exact ⟨_, rfl, hb, fun w3 hb3 => ⟨b0, b1, rfl, B0.later hb3, B1.later hb3⟩⟩)) (fun v lo hi _ hv => ?_)
    obtain ⟨_, _, b0, b1, rfl, _⟩ := hv
    simp only [Act.put, List.setIfInBounds_toArray, List.set_cons_zero, List.set_cons_succ]
    refine rel_load 33 _ rfl (w.heap.size + 1) (0) rfl (#[.int .i8 (a 0), .int .i8 (a 1), .int .i8 (a 2), .int .i8 (a 3)]) _ rfl rfl (fun w' hw' => (hw'.at 1 rfl).whole) Try.underlying33 rfl (by kernel_rfl) (fun _ => ?_)
    simp only [Act.put, List.setIfInBounds_toArray, List.set_cons_zero, List.set_cons_succ]
    refine rel_callDynK 4 (.bool (netOk f a)) 35 #[vNet a, .pointer (some ⟨b0, 0, none⟩), .pointer (some ⟨b1, 0, none⟩)] rfl rfl rfl rfl rfl (enters_of Try.func35 (by kernel_rfl) rfl) rfl rfl rfl rfl (fun w' hw' hx => by
      obtain ⟨q0, q1, e, B0, B1⟩ := hx.1
      cases e
      exact fit_closure f hf hW2 hH2 a ha b0 b1 w' B0 B1) (fun _ => ?_)
    simp only [Act.put, List.setIfInBounds_toArray, List.set_cons_zero, List.set_cons_succ]
    refine rel_val _ rfl rfl (fun _ _ => rfl) (fun _ => ?_)
    simp only [Act.put, List.setIfInBounds_toArray, List.set_cons_zero, List.set_cons_succ]
    refine rel_val _ rfl rfl (fun _ _ => rfl) (fun _ => ?_)
    simp only [Act.put, List.setIfInBounds_toArray, List.set_cons_zero, List.set_cons_succ]
    refine rel_nil (fun W2 inv => ?_)
    have M2 := inv.cls
    clear inv
    go_wp2_with fail
    go_ret
    exact ⟨rfl, M2.below⟩
end Go.Proofs.Ytniibbgcdaijfaa
