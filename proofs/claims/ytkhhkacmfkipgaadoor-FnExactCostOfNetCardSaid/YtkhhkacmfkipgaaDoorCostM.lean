/-
  What nets cost: the model's, the program's, for one net.
  What several nets cost: the model's, the program's.
  What one net costs: the model's, the program's.
-/
import Derived.Test.YtkhhkacmfkipgaaDoorNetJ
import Derived.Test.YtkhhkacmfkipgaaDoorPri
import Derived.Test.YtkhhkacmfkipgaaDoorChkG
namespace Go.Proofs.YtkhhkacmfkipgaaDoor
section
open Go Go.RowKit

/-- What a net costs. -/
def costA (p a : Nat → Int) : Int := p 0 + p 1 * (a 2 * a 3) + p 2 * (2 * (a 2 + a 3))
structure CostOk (p a : Nat → Int) : Prop where
  p0 : 0 ≤ p 0 ∧ p 0 ≤ 100
  p1 : 0 ≤ p 1 ∧ p 1 ≤ 100
  p2 : 0 ≤ p 2 ∧ p 2 ≤ 100
  a2 : 1 ≤ a 2 ∧ a 2 ≤ 10
  a3 : 1 ≤ a 3 ∧ a 3 ≤ 10
theorem prices_in {p : Nat → Int} (h : pricesOk p = true) : (0 ≤ p 0 ∧ p 0 ≤ 100) ∧ (0 ≤ p 1 ∧ p 1 ≤ 100) ∧ (0 ≤ p 2 ∧ p 2 ≤ 100) := by
  simp only [pricesOk, Bool.and_eq_true, inB_iff] at h
  exact ⟨h.1.1.1, h.1.1.2, h.1.2⟩
theorem cost_ok {p a : Nat → Int} (h : pricesOk p = true) (hf : NetFits a) : CostOk p a := by
  obtain ⟨h0, h1, h2⟩ := prices_in h
  obtain ⟨x0, y0, w1, g1, x2, y2⟩ := hf
  exact ⟨h0, h1, h2, ⟨w1, by omega⟩, ⟨g1, by omega⟩⟩
theorem mul_in {x y A B : Int} (h1 : 0 ≤ x ∧ x ≤ A) (h2 : 0 ≤ y ∧ y ≤ B) : 0 ≤ x * y ∧ x * y ≤ A * B :=
  ⟨Int.mul_nonneg h1.1 h2.1, Int.mul_le_mul h1.2 h2.2 h2.1 (by omega)⟩
structure CostIn (p a : Nat → Int) : Prop where
  area : 0 ≤ a 2 * a 3 ∧ a 2 * a 3 ≤ 100
  part : 0 ≤ p 1 * a 2 ∧ p 1 * a 2 ≤ 1000
  body : 0 ≤ p 1 * (a 2 * a 3) ∧ p 1 * (a 2 * a 3) ≤ 10000
  edge : 0 ≤ 2 * (a 2 + a 3) ∧ 2 * (a 2 + a 3) ≤ 40
  rim : 0 ≤ p 2 * (2 * (a 2 + a 3)) ∧ p 2 * (2 * (a 2 + a 3)) ≤ 4000
theorem cost_in {p a : Nat → Int} (h : CostOk p a) : CostIn p a := by
  obtain ⟨h0, h1, h2, k2, k3⟩ := h
  have e1 := mul_in (x := a 2) (y := a 3) (A := 10) (B := 10) ⟨by omega, k2.2⟩ ⟨by omega, k3.2⟩
  have e2 := mul_in (x := p 1) (y := a 2) (A := 100) (B := 10) h1 ⟨by omega, k2.2⟩
  have e3 := mul_in (x := p 1) (y := a 2 * a 3) (A := 100) (B := 100) h1 ⟨e1.1, by omega⟩
  have e4 : 0 ≤ 2 * (a 2 + a 3) ∧ 2 * (a 2 + a 3) ≤ 40 := by omega
  have e5 := mul_in (x := p 2) (y := 2 * (a 2 + a 3)) (A := 100) (B := 40) h2 e4
  exact ⟨⟨e1.1, by omega⟩, ⟨e2.1, by omega⟩, ⟨e3.1, by omega⟩, e4, ⟨e5.1, by omega⟩⟩
theorem costA_in {p a : Nat → Int} (h : CostOk p a) : 0 ≤ costA p a ∧ costA p a ≤ 14100 := by
  have hc := cost_in h
  obtain ⟨h0, _, _, _, _⟩ := h
  obtain ⟨_, _, hb, _, hr⟩ := hc
  unfold costA; omega
theorem wrap_id {x : Int} (h1 : -9223372036854775808 ≤ x) (h2 : x ≤ 9223372036854775807) : IntKind.i64.wrap x = x := by rw [IntKind.wrap_i64]; omega
set_option maxRecDepth 100000 in
theorem area_any (a : Nat → Int) (ha : WfN a) (h : 0 ≤ a 2 * a 3 ∧ a 2 * a 3 ≤ 100) (w : World) : Calls Tryd.prog 88 #[vNet a] w fun e w' => e = .returned (.int .i64 (a 2 * a 3)) ∧ Below w.heap.size w w' := by
  obtain ⟨_, _, ⟨u1, u2⟩, ⟨v1, v2⟩⟩ := ha
  obtain ⟨m1, m2⟩ := h
  go_enter Tryd.func88, Tryd.ntmps88
  go_upto_region 1 with (fail)
  obtain ⟨W, hW, M⟩ := open1 w #[.int .i8 (a 0), .int .i8 (a 1), .int .i8 (a 2), .int .i8 (a 3)] 34
  rw [hW]; clear hW
  have c2 := (M.at 0 rfl).cell (i := 2) rfl
  have c3 := (M.at 0 rfl).cell (i := 3) rfl
  go_wp2_with fail
  go_ret
  exact ⟨rfl, M.below⟩
theorem asNC (n : Int) (w : World) : (Instr.typeAssert (.iface 127 (.int .i16 n)) 98 128 true).run Tryd.prog w = .ok (.tuple #[.int .i16 0, .bool false]) w := by kernel_rfl
theorem asNE (n : Int) (w : World) : (Instr.typeAssert (.iface 127 (.int .i16 n)) 98 129 true).run Tryd.prog w = .ok (.tuple #[.int .i16 0, .bool false]) w := by kernel_rfl
theorem asCC (n : Int) (w : World) : (Instr.typeAssert (.iface 128 (.int .i16 n)) 98 128 true).run Tryd.prog w = .ok (.tuple #[.int .i16 n, .bool true]) w := by kernel_rfl
theorem asEC (n : Int) (w : World) : (Instr.typeAssert (.iface 129 (.int .i16 n)) 98 128 true).run Tryd.prog w = .ok (.tuple #[.int .i16 0, .bool false]) w := by kernel_rfl
theorem asEE (n : Int) (w : World) : (Instr.typeAssert (.iface 129 (.int .i16 n)) 98 129 true).run Tryd.prog w = .ok (.tuple #[.int .i16 n, .bool true]) w := by kernel_rfl
set_option maxRecDepth 100000 in
set_option maxHeartbeats 1000000 in
theorem times0 (n : Int) (a : Nat → Int) (ha : WfN a) (w : World) : Calls Tryd.prog 69 #[.iface 127 (.int .i16 n), vNet a] w fun e w' => e = .returned (.int .i64 (1)) ∧ Below w.heap.size w w' := by
  go_enter Tryd.func69, Tryd.ntmps69
  go_upto_region 1 with (fail)
  obtain ⟨W, hW, M⟩ := open1 w #[.int .i8 (a 0), .int .i8 (a 1), .int .i8 (a 2), .int .i8 (a 3)] 34
  rw [hW]; clear hW
  go_wp2_with (first
    | (rw [asNC]; go_simp)
    | (rw [asNE]; go_simp))
  go_ret
  exact ⟨rfl, M.below⟩
set_option maxRecDepth 100000 in
set_option maxHeartbeats 1000000 in
theorem times1 (n : Int) (a : Nat → Int) (ha : WfN a) (h : 0 ≤ a 2 * a 3 ∧ a 2 * a 3 ≤ 100) (w : World) : Calls Tryd.prog 69 #[.iface 128 (.int .i16 n), vNet a] w fun e w' => e = .returned (.int .i64 (a 2 * a 3)) ∧ Below w.heap.size w w' := by
  go_enter Tryd.func69, Tryd.ntmps69
  go_upto_region 1 with (fail)
  obtain ⟨W, hW, M⟩ := open1 w #[.int .i8 (a 0), .int .i8 (a 1), .int .i8 (a 2), .int .i8 (a 3)] 34
  rw [hW]; clear hW
  go_wp2_with (first
    | (rw [asCC]; go_simp)
    | (go_at_call 88; refine (area_any a ha h _).mono ?_; rintro e W2 ⟨rfl, hb⟩; have M2 := M.call hb)
    | (refine wpList_load_part rfl 34 _ rfl w.heap.size 0 rfl #[.int .i8 (a 0), .int .i8 (a 1), .int .i8 (a 2), .int .i8 (a 3)] _ (M.at 0 rfl).whole Tryd.underlying34 rfl (by kernel_rfl) ?_))
  go_ret
  exact ⟨rfl, M2.below⟩
set_option maxRecDepth 100000 in
set_option maxHeartbeats 1000000 in
theorem times2 (n : Int) (a : Nat → Int) (ha : WfN a) (w : World) : Calls Tryd.prog 69 #[.iface 129 (.int .i16 n), vNet a] w fun e w' => e = .returned (.int .i64 (2 * (a 2 + a 3))) ∧ Below w.heap.size w w' := by
  go_enter Tryd.func69, Tryd.ntmps69
  go_upto_region 1 with (fail)
  obtain ⟨W, hW, M⟩ := open1 w #[.int .i8 (a 0), .int .i8 (a 1), .int .i8 (a 2), .int .i8 (a 3)] 34
  rw [hW]; clear hW
  go_wp2_with (first
    | (rw [asEC]; go_simp)
    | (rw [asEE]; go_simp)
    | (go_at_call 38; refine (implEdge a ha _).mono ?_; rintro e W2 ⟨rfl, hb⟩; have M2 := M.call hb)
    | (refine wpList_load_part rfl 34 _ rfl w.heap.size 0 rfl #[.int .i8 (a 0), .int .i8 (a 1), .int .i8 (a 2), .int .i8 (a 3)] _ (M.at 0 rfl).whole Tryd.underlying34 rfl (by kernel_rfl) ?_))
  go_ret
  exact ⟨rfl, M2.below⟩
theorem run_callInv {P : Program} {o : Oper} {a : Act} {f : FuncId} {t : Operand} {T : TypeId} {v : Value} {nm : String} {v' : Value} (ho : o.op = .call { callee := .invoke t nm, args := #[], argTypes := #[] }) (ht : a.eval t = .iface T v)
    (hm : ∀ w, (Go.method (P.types.size + 100) T v nm).run P w = .ok (f, v') w) (he : ∀ (args : Array Value) (w : World), (callFunc f args).run P w = .ok (.enter f args) w) (w : World) : (execOp a.eval o).run P w = .ok (.enter f #[v']) w := by
  unfold execOp
  simp only [ho, resolve, ht]
  simp [go_sem, invoke, he, hm]
section
variable {P : Program} {ops : Array Oper} {C : World → Prop} {l : List OpD} {Q : Act → Left → Prop} {o : Oper} {rest : List Oper} {k : Nat} {a : Act} {g : Left}
theorem rel_callInv (v0 : Value) (f : FuncId) (hl : l[k]? = some (dV v0)) (hw : Region.wanted o (yielded ops a.tmps) = true) {t : Operand} {T : TypeId} {v : Value} {nm : String} {v' : Value} (ho : o.op = .call { callee := .invoke t nm, args := #[], argTypes := #[] }) (ht : a.eval t = .iface T v)
    (hm : ∀ w, (Go.method (P.types.size + 100) T v nm).run P w = .ok (f, v') w) (he : ∀ (args : Array Value) (w : World), (callFunc f args).run P w = .ok (.enter f args) w)
    (hc : ∀ w, C w → Calls P f #[v'] w (fun e w' => e = .returned v0 ∧ Below w.heap.size w w'))
    (h2 : ∀ x, wpRel P ops C (DL l) Q rest (k + 1) (a.put o.dst v0) (g.upd k x)) : wpRel P ops C (DL l) Q (o :: rest) k a g :=
  rel_step hw (goes_call f #[v'] (fun w _ => run_callInv ho ht hm he w) (fun w hw' => (hc w hw').mono (fun e w' h => ⟨v0, h.1, h.2, by rw [DL_at hl]; rfl⟩))) (fun v lo hi _ ⟨w, _, h⟩ => by rw [DL_at hl] at h; cases h; exact h2 _)
end
theorem methI0 (v : Value) (w : World) : (Go.method (Tryd.prog.types.size + 100) 127 v "loop.example/g01338/impl.price").run Tryd.prog w = .ok (118, v) w := by kernel_rfl
theorem methI1 (v : Value) (w : World) : (Go.method (Tryd.prog.types.size + 100) 128 v "loop.example/g01338/impl.price").run Tryd.prog w = .ok (119, v) w := by kernel_rfl
theorem methI2 (v : Value) (w : World) : (Go.method (Tryd.prog.types.size + 100) 129 v "loop.example/g01338/impl.price").run Tryd.prog w = .ok (120, v) w := by kernel_rfl
set_option maxRecDepth 100000 in
set_option maxHeartbeats 4000000 in
theorem costOf_any (p a : Nat → Int) (hp : WfP p) (ha : WfN a) (hok : CostOk p a) (w : World) : Calls Tryd.prog 47 #[vPrices p, vNet a] w fun e w' => e = .returned (.int .i64 (costA p a)) ∧ Below w.heap.size w w' := by
  have hin := cost_in hok
  have harea := hin.area
  have htot := costA_in hok
  obtain ⟨⟨p0l, p0h⟩, ⟨p1l, p1h⟩, ⟨p2l, p2h⟩, _, _⟩ := hok
  obtain ⟨_, _, ⟨b1, b2⟩, ⟨d1, d2⟩, ⟨r1, r2⟩⟩ := hin
  have e0 : IntKind.i64.wrap (p 0) = p 0 := wrap_id (by omega) (by omega)
  have e1 : IntKind.i64.wrap (p 1 * (a 2 * a 3)) = p 1 * (a 2 * a 3) := wrap_id (by omega) (by omega)
  have e2 : IntKind.i64.wrap (p 2 * (2 * (a 2 + a 3))) = p 2 * (2 * (a 2 + a 3)) := wrap_id (by omega) (by omega)
  have f1 : IntKind.i64.wrap (p 0 + p 1 * (a 2 * a 3)) = p 0 + p 1 * (a 2 * a 3) := wrap_id (by omega) (by omega)
  have f2 : IntKind.i64.wrap (p 0 + p 1 * (a 2 * a 3) + p 2 * (2 * (a 2 + a 3))) = costA p a := wrap_id (by unfold costA at htot; omega) (by unfold costA at htot; omega)
  go_enter Tryd.func47, Tryd.ntmps47
  go_upto_region 1 with (fail)
  obtain ⟨W, hW, M⟩ := open2 w #[.int .i16 (p 0), .int .i16 (p 1), .int .i16 (p 2)] 53 #[.int .i8 (a 0), .int .i8 (a 1), .int .i8 (a 2), .int .i8 (a 3)] 34
  rw [hW]; clear hW
  go_wp2_with (first
    | (go_at_call 68; refine (charges_any p _).mono ?_; rintro e W0 ⟨rfl, hb⟩; have M0 := M.call hb; clear M hb)
    | (refine wpList_load_part rfl 53 _ rfl w.heap.size 0 rfl #[.int .i16 (p 0), .int .i16 (p 1), .int .i16 (p 2)] _ (M.at 0 rfl).whole Tryd.underlying53 rfl (by kernel_rfl) ?_))
  refine wp_loop_rounds 4 ?_
  rw [rounds_succ]
  go_upto_region 5 with (rw [idxC0]; go_simp)
  refine wp_region_rel (DL [dV (.int .i64 (0)), dV (.iface 127 (.int .i16 (p 0))), dV (.int .i64 (p 0)), dV (.iface 127 (.int .i16 (p 0))), dV (vNet a), dV (.int .i64 1), dV (.int .i64 (p 0)), dV (.int .i64 (p 0)), dV (.int .i64 (p 0))]) (fun w' => Mem w w' [⟨w.heap.size, #[.int .i16 (p 0), .int .i16 (p 1), .int .i16 (p 2)], 53⟩, ⟨w.heap.size + 1, #[.int .i8 (a 0), .int .i8 (a 1), .int .i8 (a 2), .int .i8 (a 3)], 34⟩]) (by kernel_rfl) (by kernel_rfl) grows_mem
    (stays_DL (fun d hd => by
      simp only [List.mem_cons, List.mem_nil_iff, or_false] at hd
      rcases hd with rfl | rfl | rfl | rfl | rfl | rfl | rfl | rfl | rfl <;> exact stay_V)) M0.drew ?_
  refine rel_val _ rfl rfl (fun _ _ => rfl) (fun _ => ?_)
  simp only [Act.put, List.setIfInBounds_toArray, List.set_cons_zero, List.set_cons_succ]
  refine rel_val _ rfl rfl (fun _ _ => rfl) (fun _ => ?_)
  simp only [Act.put, List.setIfInBounds_toArray, List.set_cons_zero, List.set_cons_succ]
  refine rel_callInv (.int .i64 (p 0)) 118 rfl rfl rfl rfl (fun w' => methI0 _ w') (enters_of Tryd.func118 (by kernel_rfl) rfl) (fun w' _ => (price0 (p 0) hp.b0 w').mono (fun e w2 h => ⟨h.1, by rw [← h.2]; exact Below.refl _ _⟩)) (fun _ => ?_)
  simp only [Act.put, List.setIfInBounds_toArray, List.set_cons_zero, List.set_cons_succ]
  refine rel_val _ rfl rfl (fun _ _ => rfl) (fun _ => ?_)
  simp only [Act.put, List.setIfInBounds_toArray, List.set_cons_zero, List.set_cons_succ]
  refine rel_load 34 _ rfl (w.heap.size + 1) 0 rfl #[.int .i8 (a 0), .int .i8 (a 1), .int .i8 (a 2), .int .i8 (a 3)] _ rfl rfl (fun w' hw' => (hw'.at 1 rfl).whole) Tryd.underlying34 rfl (by kernel_rfl) (fun _ => ?_)
  simp only [Act.put, List.setIfInBounds_toArray, List.set_cons_zero, List.set_cons_succ]
  refine rel_call (.int .i64 1) 69 #[.iface 127 (.int .i16 (p 0)), vNet a] rfl rfl rfl rfl (enters_of Tryd.func69 (by kernel_rfl) rfl) (fun w' _ => times0 (p 0) a ha w') (fun _ => ?_)
  simp only [Act.put, List.setIfInBounds_toArray, List.set_cons_zero, List.set_cons_succ]
  refine rel_val _ rfl rfl (fun w' _ => by simp [execOp, Act.eval, go_sem, e0]) (fun _ => ?_)
  simp only [Act.put, List.setIfInBounds_toArray, List.set_cons_zero, List.set_cons_succ]
  refine rel_val _ rfl rfl (fun w' _ => by simp [execOp, Act.eval, go_sem, e0]) (fun _ => ?_)
  simp only [Act.put, List.setIfInBounds_toArray, List.set_cons_zero, List.set_cons_succ]
  refine rel_val _ rfl rfl (fun _ _ => rfl) (fun _ => ?_)
  simp only [Act.put, List.setIfInBounds_toArray, List.set_cons_zero, List.set_cons_succ]
  refine rel_nil (fun W1 inv => ?_)
  have M1 := inv.cls
  clear inv M0
  go_wp2_with fail
  rw [rounds_succ]
  go_upto_region 5 with (rw [idxC1]; go_simp)
  refine wp_region_rel (DL [dV (.int .i64 (p 0)), dV (.iface 128 (.int .i16 (p 1))), dV (.int .i64 (p 1)), dV (.iface 128 (.int .i16 (p 1))), dV (vNet a), dV (.int .i64 (a 2 * a 3)), dV (.int .i64 ((p 1 * (a 2 * a 3)))), dV (.int .i64 ((p 0 + p 1 * (a 2 * a 3)))), dV (.int .i64 ((p 0 + p 1 * (a 2 * a 3))))]) (fun w' => Mem w w' [⟨w.heap.size, #[.int .i16 (p 0), .int .i16 (p 1), .int .i16 (p 2)], 53⟩, ⟨w.heap.size + 1, #[.int .i8 (a 0), .int .i8 (a 1), .int .i8 (a 2), .int .i8 (a 3)], 34⟩]) (by kernel_rfl) (by kernel_rfl) grows_mem
    (stays_DL (fun d hd => by
      simp only [List.mem_cons, List.mem_nil_iff, or_false] at hd
      rcases hd with rfl | rfl | rfl | rfl | rfl | rfl | rfl | rfl | rfl <;> exact stay_V)) M1.drew ?_
  refine rel_val _ rfl rfl (fun _ _ => rfl) (fun _ => ?_)
  simp only [Act.put, List.setIfInBounds_toArray, List.set_cons_zero, List.set_cons_succ]
  refine rel_val _ rfl rfl (fun _ _ => rfl) (fun _ => ?_)
  simp only [Act.put, List.setIfInBounds_toArray, List.set_cons_zero, List.set_cons_succ]
  refine rel_callInv (.int .i64 (p 1)) 119 rfl rfl rfl rfl (fun w' => methI1 _ w') (enters_of Tryd.func119 (by kernel_rfl) rfl) (fun w' _ => (price1 (p 1) hp.b1 w').mono (fun e w2 h => ⟨h.1, by rw [← h.2]; exact Below.refl _ _⟩)) (fun _ => ?_)
  simp only [Act.put, List.setIfInBounds_toArray, List.set_cons_zero, List.set_cons_succ]
  refine rel_val _ rfl rfl (fun _ _ => rfl) (fun _ => ?_)
  simp only [Act.put, List.setIfInBounds_toArray, List.set_cons_zero, List.set_cons_succ]
  refine rel_load 34 _ rfl (w.heap.size + 1) 0 rfl #[.int .i8 (a 0), .int .i8 (a 1), .int .i8 (a 2), .int .i8 (a 3)] _ rfl rfl (fun w' hw' => (hw'.at 1 rfl).whole) Tryd.underlying34 rfl (by kernel_rfl) (fun _ => ?_)
  simp only [Act.put, List.setIfInBounds_toArray, List.set_cons_zero, List.set_cons_succ]
  refine rel_call (.int .i64 (a 2 * a 3)) 69 #[.iface 128 (.int .i16 (p 1)), vNet a] rfl rfl rfl rfl (enters_of Tryd.func69 (by kernel_rfl) rfl) (fun w' _ => times1 (p 1) a ha harea w') (fun _ => ?_)
  simp only [Act.put, List.setIfInBounds_toArray, List.set_cons_zero, List.set_cons_succ]
  refine rel_val _ rfl rfl (fun w' _ => by simp [execOp, Act.eval, go_sem, e1]) (fun _ => ?_)
  simp only [Act.put, List.setIfInBounds_toArray, List.set_cons_zero, List.set_cons_succ]
  refine rel_val _ rfl rfl (fun w' _ => by simp [execOp, Act.eval, go_sem, f1]) (fun _ => ?_)
  simp only [Act.put, List.setIfInBounds_toArray, List.set_cons_zero, List.set_cons_succ]
  refine rel_val _ rfl rfl (fun _ _ => rfl) (fun _ => ?_)
  simp only [Act.put, List.setIfInBounds_toArray, List.set_cons_zero, List.set_cons_succ]
  refine rel_nil (fun W2 inv => ?_)
  have M2 := inv.cls
  clear inv M1
  go_wp2_with fail
  rw [rounds_succ]
  go_upto_region 5 with (rw [idxC2]; go_simp)
  refine wp_region_rel (DL [dV (.int .i64 ((p 0 + p 1 * (a 2 * a 3)))), dV (.iface 129 (.int .i16 (p 2))), dV (.int .i64 (p 2)), dV (.iface 129 (.int .i16 (p 2))), dV (vNet a), dV (.int .i64 (2 * (a 2 + a 3))), dV (.int .i64 ((p 2 * (2 * (a 2 + a 3))))), dV (.int .i64 (costA p a)), dV (.int .i64 (costA p a))]) (fun w' => Mem w w' [⟨w.heap.size, #[.int .i16 (p 0), .int .i16 (p 1), .int .i16 (p 2)], 53⟩, ⟨w.heap.size + 1, #[.int .i8 (a 0), .int .i8 (a 1), .int .i8 (a 2), .int .i8 (a 3)], 34⟩]) (by kernel_rfl) (by kernel_rfl) grows_mem
    (stays_DL (fun d hd => by
      simp only [List.mem_cons, List.mem_nil_iff, or_false] at hd
      rcases hd with rfl | rfl | rfl | rfl | rfl | rfl | rfl | rfl | rfl <;> exact stay_V)) M2.drew ?_
  refine rel_val _ rfl rfl (fun _ _ => rfl) (fun _ => ?_)
  simp only [Act.put, List.setIfInBounds_toArray, List.set_cons_zero, List.set_cons_succ]
  refine rel_val _ rfl rfl (fun _ _ => rfl) (fun _ => ?_)
  simp only [Act.put, List.setIfInBounds_toArray, List.set_cons_zero, List.set_cons_succ]
  refine rel_callInv (.int .i64 (p 2)) 120 rfl rfl rfl rfl (fun w' => methI2 _ w') (enters_of Tryd.func120 (by kernel_rfl) rfl) (fun w' _ => (price2 (p 2) hp.b2 w').mono (fun e w2 h => ⟨h.1, by rw [← h.2]; exact Below.refl _ _⟩)) (fun _ => ?_)
  simp only [Act.put, List.setIfInBounds_toArray, List.set_cons_zero, List.set_cons_succ]
  refine rel_val _ rfl rfl (fun _ _ => rfl) (fun _ => ?_)
  simp only [Act.put, List.setIfInBounds_toArray, List.set_cons_zero, List.set_cons_succ]
  refine rel_load 34 _ rfl (w.heap.size + 1) 0 rfl #[.int .i8 (a 0), .int .i8 (a 1), .int .i8 (a 2), .int .i8 (a 3)] _ rfl rfl (fun w' hw' => (hw'.at 1 rfl).whole) Tryd.underlying34 rfl (by kernel_rfl) (fun _ => ?_)
  simp only [Act.put, List.setIfInBounds_toArray, List.set_cons_zero, List.set_cons_succ]
  refine rel_call (.int .i64 (2 * (a 2 + a 3))) 69 #[.iface 129 (.int .i16 (p 2)), vNet a] rfl rfl rfl rfl (enters_of Tryd.func69 (by kernel_rfl) rfl) (fun w' _ => times2 (p 2) a ha w') (fun _ => ?_)
  simp only [Act.put, List.setIfInBounds_toArray, List.set_cons_zero, List.set_cons_succ]
  refine rel_val _ rfl rfl (fun w' _ => by simp [execOp, Act.eval, go_sem, e2]) (fun _ => ?_)
  simp only [Act.put, List.setIfInBounds_toArray, List.set_cons_zero, List.set_cons_succ]
  refine rel_val _ rfl rfl (fun w' _ => by simp [execOp, Act.eval, go_sem, f2]) (fun _ => ?_)
  simp only [Act.put, List.setIfInBounds_toArray, List.set_cons_zero, List.set_cons_succ]
  refine rel_val _ rfl rfl (fun _ _ => rfl) (fun _ => ?_)
  simp only [Act.put, List.setIfInBounds_toArray, List.set_cons_zero, List.set_cons_succ]
  refine rel_nil (fun W3 inv => ?_)
  have M3 := inv.cls
  clear inv M2
  go_wp2_with fail
  rw [rounds_succ]
  go_wp2_with fail
  go_ret
  exact ⟨rfl, M3.below⟩
set_option maxRecDepth 100000 in
set_option maxHeartbeats 4000000 in
theorem l04Cost_any (p a : Nat → Int) (_hp : WfP p) (ha : WfN a) (hok : CostOk p a) (w : World) : Calls Tryd.prog 45 #[vPrices p, vNet a] w fun e w' => e = .returned (.int .i64 (costA p a)) ∧ Below w.heap.size w w' := by
  have hin := cost_in hok
  have htot := costA_in hok
  obtain ⟨⟨p0l, p0h⟩, ⟨p1l, p1h⟩, ⟨p2l, p2h⟩, ⟨q2l, q2h⟩, ⟨q3l, q3h⟩⟩ := hok
  obtain ⟨_, ⟨c1, c2⟩, ⟨b1, b2⟩, ⟨d1, d2⟩, ⟨r1, r2⟩⟩ := hin
  have e0 : IntKind.i64.wrap (p 0) = p 0 := wrap_id (by omega) (by omega)
  have e1 : IntKind.i64.wrap (p 1) = p 1 := wrap_id (by omega) (by omega)
  have e2 : IntKind.i64.wrap (p 2) = p 2 := wrap_id (by omega) (by omega)
  have g2 : IntKind.i64.wrap (a 2) = a 2 := wrap_id (by omega) (by omega)
  have g3 : IntKind.i64.wrap (a 3) = a 3 := wrap_id (by omega) (by omega)
  have h1 : IntKind.i64.wrap (p 1 * a 2) = p 1 * a 2 := wrap_id (by omega) (by omega)
  have h2 : IntKind.i64.wrap (p 1 * a 2 * a 3) = p 1 * (a 2 * a 3) := by rw [Int.mul_assoc]; exact wrap_id (by omega) (by omega)
  have h3 : IntKind.i64.wrap (p 0 + p 1 * (a 2 * a 3)) = p 0 + p 1 * (a 2 * a 3) := wrap_id (by omega) (by omega)
  have h4 : IntKind.i64.wrap (p 2 * (2 * (a 2 + a 3))) = p 2 * (2 * (a 2 + a 3)) := wrap_id (by omega) (by omega)
  have h5 : IntKind.i64.wrap (p 0 + p 1 * (a 2 * a 3) + p 2 * (2 * (a 2 + a 3))) = costA p a := wrap_id (by unfold costA at htot; omega) (by unfold costA at htot; omega)
  go_enter Tryd.func45, Tryd.ntmps45
  go_upto_region 1 with (fail)
  obtain ⟨W, hW, M⟩ := open2 w #[.int .i16 (p 0), .int .i16 (p 1), .int .i16 (p 2)] 53 #[.int .i8 (a 0), .int .i8 (a 1), .int .i8 (a 2), .int .i8 (a 3)] 34
  rw [hW]; clear hW
  refine wp_region_rel (DL [dV (.pointer (some ⟨w.heap.size, 0, none⟩)), dV (.int .i16 (p 0)), dV (.int .i64 (p 0)), dV (.pointer (some ⟨w.heap.size, 1, none⟩)), dV (.int .i16 (p 1)), dV (.int .i64 (p 1)), dV (.pointer (some ⟨w.heap.size + 1, 2, none⟩)), dV (.int .i8 (a 2)), dV (.int .i64 (a 2)), dV (.int .i64 (p 1 * a 2)), dV (.pointer (some ⟨w.heap.size + 1, 3, none⟩)), dV (.int .i8 (a 3)), dV (.int .i64 (a 3)), dV (.int .i64 (p 1 * (a 2 * a 3))), dV (.int .i64 (p 0 + p 1 * (a 2 * a 3))), dV (.pointer (some ⟨w.heap.size, 2, none⟩)), dV (.int .i16 (p 2)), dV (.int .i64 (p 2)), dV (vNet a), dV (.int .i64 (2 * (a 2 + a 3))), dV (.int .i64 (p 2 * (2 * (a 2 + a 3)))), dV (.int .i64 (costA p a)), dV (.int .i64 (costA p a))]) (fun w' => Mem w w' [⟨w.heap.size, #[.int .i16 (p 0), .int .i16 (p 1), .int .i16 (p 2)], 53⟩, ⟨w.heap.size + 1, #[.int .i8 (a 0), .int .i8 (a 1), .int .i8 (a 2), .int .i8 (a 3)], 34⟩]) (by kernel_rfl) (by kernel_rfl) grows_mem
    (stays_DL (fun d hd => by
      simp only [List.mem_cons, List.mem_nil_iff, or_false] at hd
      rcases hd with rfl | rfl | rfl | rfl | rfl | rfl | rfl | rfl | rfl | rfl | rfl | rfl | rfl | rfl | rfl | rfl | rfl | rfl | rfl | rfl | rfl | rfl | rfl <;> exact stay_V)) M.drew ?_
  refine rel_val _ rfl rfl (fun _ _ => rfl) (fun _ => ?_)
  simp only [Act.put, List.setIfInBounds_toArray, List.set_cons_zero, List.set_cons_succ]
  refine rel_cell 24 _ rfl (w.heap.size) 0 rfl (.int .i16 (p 0)) rfl rfl (fun w' c => load_i16 _ _ _ w' c) (fun w' hw' => (hw'.at 0 rfl).cell (i := 0) rfl) (fun _ => ?_)
  simp only [Act.put, List.setIfInBounds_toArray, List.set_cons_zero, List.set_cons_succ]
  refine rel_val _ rfl rfl (fun w' _ => by simp [execOp, Act.eval, go_sem, Tryd.underlying24, Tryd.underlying2, e0]) (fun _ => ?_)
  simp only [Act.put, List.setIfInBounds_toArray, List.set_cons_zero, List.set_cons_succ]
  refine rel_val _ rfl rfl (fun _ _ => rfl) (fun _ => ?_)
  simp only [Act.put, List.setIfInBounds_toArray, List.set_cons_zero, List.set_cons_succ]
  refine rel_cell 24 _ rfl (w.heap.size) 1 rfl (.int .i16 (p 1)) rfl rfl (fun w' c => load_i16 _ _ _ w' c) (fun w' hw' => (hw'.at 0 rfl).cell (i := 1) rfl) (fun _ => ?_)
  simp only [Act.put, List.setIfInBounds_toArray, List.set_cons_zero, List.set_cons_succ]
  refine rel_val _ rfl rfl (fun w' _ => by simp [execOp, Act.eval, go_sem, Tryd.underlying24, Tryd.underlying2, e1]) (fun _ => ?_)
  simp only [Act.put, List.setIfInBounds_toArray, List.set_cons_zero, List.set_cons_succ]
  refine rel_val _ rfl rfl (fun _ _ => rfl) (fun _ => ?_)
  simp only [Act.put, List.setIfInBounds_toArray, List.set_cons_zero, List.set_cons_succ]
  refine rel_cell 22 _ rfl (w.heap.size + 1) 2 rfl (.int .i8 (a 2)) rfl rfl (fun w' c => load_i8 _ _ _ w' c) (fun w' hw' => (hw'.at 1 rfl).cell (i := 2) rfl) (fun _ => ?_)
  simp only [Act.put, List.setIfInBounds_toArray, List.set_cons_zero, List.set_cons_succ]
  refine rel_val _ rfl rfl (fun w' _ => by simp [execOp, Act.eval, go_sem, Tryd.underlying22, Tryd.underlying2, g2]) (fun _ => ?_)
  simp only [Act.put, List.setIfInBounds_toArray, List.set_cons_zero, List.set_cons_succ]
  refine rel_val _ rfl rfl (fun w' _ => by simp [execOp, Act.eval, go_sem, h1]) (fun _ => ?_)
  simp only [Act.put, List.setIfInBounds_toArray, List.set_cons_zero, List.set_cons_succ]
  refine rel_val _ rfl rfl (fun _ _ => rfl) (fun _ => ?_)
  simp only [Act.put, List.setIfInBounds_toArray, List.set_cons_zero, List.set_cons_succ]
  refine rel_cell 22 _ rfl (w.heap.size + 1) 3 rfl (.int .i8 (a 3)) rfl rfl (fun w' c => load_i8 _ _ _ w' c) (fun w' hw' => (hw'.at 1 rfl).cell (i := 3) rfl) (fun _ => ?_)
  simp only [Act.put, List.setIfInBounds_toArray, List.set_cons_zero, List.set_cons_succ]
  refine rel_val _ rfl rfl (fun w' _ => by simp [execOp, Act.eval, go_sem, Tryd.underlying22, Tryd.underlying2, g3]) (fun _ => ?_)
  simp only [Act.put, List.setIfInBounds_toArray, List.set_cons_zero, List.set_cons_succ]
  refine rel_val _ rfl rfl (fun w' _ => by simp [execOp, Act.eval, go_sem, h2]) (fun _ => ?_)
  simp only [Act.put, List.setIfInBounds_toArray, List.set_cons_zero, List.set_cons_succ]
  refine rel_val _ rfl rfl (fun w' _ => by simp [execOp, Act.eval, go_sem, h3]) (fun _ => ?_)
  simp only [Act.put, List.setIfInBounds_toArray, List.set_cons_zero, List.set_cons_succ]
  refine rel_val _ rfl rfl (fun _ _ => rfl) (fun _ => ?_)
  simp only [Act.put, List.setIfInBounds_toArray, List.set_cons_zero, List.set_cons_succ]
  refine rel_cell 24 _ rfl (w.heap.size) 2 rfl (.int .i16 (p 2)) rfl rfl (fun w' c => load_i16 _ _ _ w' c) (fun w' hw' => (hw'.at 0 rfl).cell (i := 2) rfl) (fun _ => ?_)
  simp only [Act.put, List.setIfInBounds_toArray, List.set_cons_zero, List.set_cons_succ]
  refine rel_val _ rfl rfl (fun w' _ => by simp [execOp, Act.eval, go_sem, Tryd.underlying24, Tryd.underlying2, e2]) (fun _ => ?_)
  simp only [Act.put, List.setIfInBounds_toArray, List.set_cons_zero, List.set_cons_succ]
  refine rel_load 34 _ rfl (w.heap.size + 1) 0 rfl #[.int .i8 (a 0), .int .i8 (a 1), .int .i8 (a 2), .int .i8 (a 3)] _ rfl rfl (fun w' hw' => (hw'.at 1 rfl).whole) Tryd.underlying34 rfl (by kernel_rfl) (fun _ => ?_)
  simp only [Act.put, List.setIfInBounds_toArray, List.set_cons_zero, List.set_cons_succ]
  refine rel_call (.int .i64 (2 * (a 2 + a 3))) 33 #[vNet a] rfl rfl rfl rfl (enters_of Tryd.func33 (by kernel_rfl) rfl) (fun w' _ => specEdge a ha w') (fun _ => ?_)
  simp only [Act.put, List.setIfInBounds_toArray, List.set_cons_zero, List.set_cons_succ]
  refine rel_val _ rfl rfl (fun w' _ => by simp [execOp, Act.eval, go_sem, h4]) (fun _ => ?_)
  simp only [Act.put, List.setIfInBounds_toArray, List.set_cons_zero, List.set_cons_succ]
  refine rel_val _ rfl rfl (fun w' _ => by simp [execOp, Act.eval, go_sem, h5]) (fun _ => ?_)
  simp only [Act.put, List.setIfInBounds_toArray, List.set_cons_zero, List.set_cons_succ]
  refine rel_val _ rfl rfl (fun _ _ => rfl) (fun _ => ?_)
  simp only [Act.put, List.setIfInBounds_toArray, List.set_cons_zero, List.set_cons_succ]
  refine rel_nil (fun W1 inv => ?_)
  have M1 := inv.cls
  clear inv M
  go_wp2_with fail
  go_ret
  exact ⟨rfl, M1.below⟩
end
section
open Go Go.RowKit

def costTo (p : Nat → Int) (F : Nat → Nat → Int) : Nat → Int
  | 0 => 0
  | n + 1 => costTo p F n + costA p (F n)
theorem costTo_in {p : Nat → Int} {F : Nat → Nat → Int} : ∀ {n : Nat}, (∀ i, i < n → CostOk p (F i)) → 0 ≤ costTo p F n ∧ costTo p F n ≤ 14100 * n
  | 0, _ => by simp [costTo]
  | n + 1, h => by
    have ih := costTo_in (n := n) (fun i hi => h i (by omega))
    have h2 := costA_in (h n (by omega))
    unfold costTo; omega
def costCode (f : Fd) (p : Nat → Int) (n : Nat) (F : Nat → Nat → Int) : Int := if pricesOk p then netsCode f n F else 1
def costSum (f : Fd) (p : Nat → Int) (n : Nat) (F : Nat → Nat → Int) : Int := if costCode f p n F = 0 then costTo p F n else 0
theorem costCode_t (f : Fd) (p : Nat → Int) (n : Nat) (F : Nat → Nat → Int) : codeT f n F (fun _ => 0) (pricesOk p) = costCode f p n F := by
  unfold costCode
  cases h : pricesOk p with
  | true => rw [codeT_zero]; rfl
  | false => rw [codeT_pri rfl]; rfl
theorem costCode_cases (f : Fd) (p : Nat → Int) (n : Nat) (F : Nat → Nat → Int) : (costCode f p n F = 0 ∧ pricesOk p = true ∧ netsCode f n F = 0) ∨ costCode f p n F = 1 ∨ costCode f p n F = 3 := by
  unfold costCode
  cases pricesOk p with
  | true =>
    rcases code_three f n F with h | h | h
    · exact .inl ⟨by simpa using h, rfl, h⟩
    · exact .inr (.inl (by simpa using h))
    · exact .inr (.inr (by simpa using h))
  | false => exact .inr (.inl rfl)
theorem costSum_no {f : Fd} {p : Nat → Int} {n : Nat} {F : Nat → Nat → Int} (h : costCode f p n F ≠ 0) : costSum f p n F = 0 := by unfold costSum; rw [if_neg h]
theorem costSum_yes {f : Fd} {p : Nat → Int} {n : Nat} {F : Nat → Nat → Int} (h : costCode f p n F = 0) : costSum f p n F = costTo p F n := by unfold costSum; rw [if_pos h]
set_option maxRecDepth 100000 in
set_option maxHeartbeats 4000000 in
theorem l04Sum_some (p : Nat → Int) (hp : WfP p) (n : Nat) (hn : n ≤ 20) (F : Nat → Nat → Int) (hF : ∀ i, i < n → WfN (F i)) (hC : ∀ i, i < n → CostOk p (F i)) (b o c : Nat) (w : World) (I : InS w b o n ksNet F) :
    Calls Tryd.prog 46 #[vPrices p, .slice (some ⟨b, o, none⟩) n c] w fun e w' => e = .returned (.int .i64 (costTo p F n)) ∧ Below w.heap.size w w' := by
  have HI := Lib.hid I
  have HF := Lib.hid hF
  have HC := Lib.hid hC
  clear I hF hC
  go_enter Tryd.func46, Tryd.ntmps46
  go_upto_region 1 with (fail)
  obtain ⟨W, hW, M⟩ := open1 w #[.int .i16 (p 0), .int .i16 (p 1), .int .i16 (p 2)] 53
  rw [hW]; clear hW
  have M0 : Hid (Mem w W [⟨w.heap.size, #[.int .i16 (p 0), .int .i16 (p 1), .int .i16 (p 2)], 53⟩]) := Lib.hid M
  clear M
  go_wp2_with fail
  go_loopw [5, 6] (fun v i wr => ∃ k : Nat, k ≤ n ∧ v = .int .i64 (costTo p F k) ∧ i = .int .i64 k ∧ Hid (Mem w wr [⟨w.heap.size, #[.int .i16 (p 0), .int .i16 (p 1), .int .i16 (p 2)], 53⟩])) (fun _ i _ => n - (intOf i).toNat)
  case atStart => exact ⟨0, by omega, rfl, rfl, M0⟩
  case round =>
    clear M0
    obtain ⟨k, hk, rfl, rfl, hM⟩ := hrel
    by_cases hlt : k < n
    · have g1 : Hid (∀ w', Below w.heap.size w w' → w'.rangeAt b (o + k * 4) (#[.int .i8 (F k 0), .int .i8 (F k 1), .int .i8 (F k 2), .int .i8 (F k 3)] : Array Value).toList) := Lib.hid (fun w' hw' => InS.elem (ks := ksNet) HI.out (by decide) hw' hlt)
      have hok := HC.out k hlt
      have ha := HF.out k hlt
      have e : Hid (IntKind.i64.wrap (costTo p F k + costA p (F k)) = costTo p F (k + 1)) := Lib.hid (by
        have h1 := costTo_in (p := p) (F := F) (n := k) (fun i hi => HC.out i (by omega))
        have h2 := costA_in hok
        show _ = costTo p F k + costA p (F k)
        exact wrap_id (by omega) (by omega))
      go_upto_region 5 with (fail)
      refine wp_region_rel (DL [dV (.int .i64 (costTo p F k)), dV (.agg (#[.int .i16 (p 0), .int .i16 (p 1), .int .i16 (p 2)])), dV (.slice (some ⟨b, o, none⟩) n c), dV (.int .i64 k), dV (.pointer (some ⟨b, o + k * 4, none⟩)), dV (.agg (#[.int .i8 ((F k) 0), .int .i8 ((F k) 1), .int .i8 ((F k) 2), .int .i8 ((F k) 3)])), dV (.int .i64 (costA p (F k))), dV (.int .i64 (costTo p F (k + 1))), dV (.int .i64 (costTo p F (k + 1)))]) (fun w' => Mem w w' [⟨w.heap.size, #[.int .i16 (p 0), .int .i16 (p 1), .int .i16 (p 2)], 53⟩]) (by kernel_rfl) (by kernel_rfl) grows_mem
        (stays_DL (fun d hd => by
          simp only [List.mem_cons, List.mem_nil_iff, or_false] at hd
          rcases hd with rfl | rfl | rfl | rfl | rfl | rfl | rfl | rfl | rfl <;> exact stay_V)) hM.out.drew ?_
      refine rel_val _ rfl rfl (fun _ _ => rfl) (fun _ => ?_)
      simp only [Act.put, List.setIfInBounds_toArray, List.set_cons_zero, List.set_cons_succ]
      refine rel_load 53 _ rfl (w.heap.size) (0) rfl (#[.int .i16 (p 0), .int .i16 (p 1), .int .i16 (p 2)]) _ rfl rfl (fun w' hw' => (hw'.at 0 rfl).whole) Tryd.underlying53 rfl (by kernel_rfl) (fun _ => ?_)
      simp only [Act.put, List.setIfInBounds_toArray, List.set_cons_zero, List.set_cons_succ]
      refine rel_val _ rfl rfl (fun _ _ => rfl) (fun _ => ?_)
      simp only [Act.put, List.setIfInBounds_toArray, List.set_cons_zero, List.set_cons_succ]
      refine rel_val _ rfl rfl (fun _ _ => rfl) (fun _ => ?_)
      simp only [Act.put, List.setIfInBounds_toArray, List.set_cons_zero, List.set_cons_succ]
      refine rel_index 46 34 _ _ rfl b o n c 4 k rfl rfl hlt Tryd.underlying46 (by kernel_rfl) rfl rfl (fun _ => ?_)
      simp only [Act.put, List.setIfInBounds_toArray, List.set_cons_zero, List.set_cons_succ]
      refine rel_load 34 _ rfl (b) (o + k * 4) rfl (#[.int .i8 ((F k) 0), .int .i8 ((F k) 1), .int .i8 ((F k) 2), .int .i8 ((F k) 3)]) _ rfl rfl (fun w' hw' => g1.out w' hw'.below) Tryd.underlying34 rfl (by kernel_rfl) (fun _ => ?_)
      simp only [Act.put, List.setIfInBounds_toArray, List.set_cons_zero, List.set_cons_succ]
      refine rel_call (.int .i64 (costA p (F k))) 45 #[vPrices p, vNet (F k)] rfl rfl rfl rfl (enters_of Tryd.func45 (by kernel_rfl) rfl) (fun w' _ => l04Cost_any p (F k) hp ha hok w') (fun _ => ?_)
      simp only [Act.put, List.setIfInBounds_toArray, List.set_cons_zero, List.set_cons_succ]
      refine rel_val (.int .i64 (costTo p F (k + 1))) rfl rfl (fun w' _ => by simp [execOp, Act.eval, go_sem, e.out]) (fun _ => ?_)
      simp only [Act.put, List.setIfInBounds_toArray, List.set_cons_zero, List.set_cons_succ]
      refine rel_val _ rfl rfl (fun _ _ => rfl) (fun _ => ?_)
      simp only [Act.put, List.setIfInBounds_toArray, List.set_cons_zero, List.set_cons_succ]
      refine rel_nil (fun W5 inv => ?_)
      have M5 := inv.cls
      clear inv
      go_wp2_with fail
      go_roundw
      case rel => exact ⟨k + 1, by omega, rfl, by go_num, Lib.hid M5⟩
      case measure => simp [intOf]; omega
    · obtain rfl : k = n := by omega
      have M9 := hM.out
      go_wp2_with fail
      go_ret
      exact ⟨rfl, M9.below⟩
set_option maxRecDepth 100000 in
set_option maxHeartbeats 4000000 in
theorem specCostOfNets (f : Fd) (hf : f.Wf) (p : Nat → Int) (hp : WfP p) (n : Nat) (hn : n ≤ 2 ^ 40) (F : Nat → Nat → Int) (hF : ∀ i, i < n → WfN (F i)) (b o c : Nat) (w : World) (I : InS w b o n ksNet F) :
    Calls Tryd.prog 25 #[.agg (fcells f), vPrices p, .slice (some ⟨b, o, none⟩) n c] w fun e w' => e = .returned (.tuple #[.int .i64 (costSum f p n F), .int .i64 (costCode f p n F)]) ∧ Below w.heap.size w w' := by
  have HI := Lib.hid I
  clear I
  cases hpk : pricesOk p with
  | false =>
    have hc : costCode f p n F = 1 := by unfold costCode; rw [hpk]; rfl
    rw [costSum_no (by rw [hc]; decide), hc]
    clear hc
    go_enter Tryd.func25, Tryd.ntmps25
    go_upto_region 1 with (fail)
    obtain ⟨W, hW, M⟩ := open2 w (fcells f) 32 #[.int .i16 (p 0), .int .i16 (p 1), .int .i16 (p 2)] 53
    rw [hW]; clear hW
    go_wp2_with (first
      | (go_at_call 40; refine (l04Nets_some f hf n hn F hF b o c w.heap.size _ (M.at 0 rfl) (HI.out.later M.below)).mono ?_; rintro e W2 ⟨rfl, hb⟩; have M2 := M.call hb; clear M hb)
      | (go_at_call 44; refine (l04Prices_any p hp _).mono ?_; rintro e W3 ⟨rfl, hb⟩; rw [hpk]; have M3 := M2.call hb; clear M2 hb)
      | (refine wpList_load_part rfl 53 _ rfl ((w.heap.size + 1)) 0 rfl (#[.int .i16 (p 0), .int .i16 (p 1), .int .i16 (p 2)]) _ (M2.at 1 rfl).whole Tryd.underlying53 rfl (by kernel_rfl) ?_))
    go_ret2
    exact ⟨rfl, M3.below⟩
  | true =>
    have hcc : costCode f p n F = netsCode f n F := by unfold costCode; rw [hpk]; rfl
    have bad : ∀ code : Int, netsCode f n F = code → code ≠ 0 → Calls Tryd.prog 25 #[.agg (fcells f), vPrices p, .slice (some ⟨b, o, none⟩) n c] w fun e w' => e = .returned (.tuple #[.int .i64 0, .int .i64 code]) ∧ Below w.heap.size w w' := by
      intro code hcode hne
      have hc := Lib.hid hcode
      have hne2 : (code != 0) = true := by simpa using hne
      clear hcode hcc
      go_enter Tryd.func25, Tryd.ntmps25
      go_upto_region 1 with (fail)
      obtain ⟨W, hW, M⟩ := open2 w (fcells f) 32 #[.int .i16 (p 0), .int .i16 (p 1), .int .i16 (p 2)] 53
      rw [hW]; clear hW
      go_wp2_with (first
        | (go_at_call 40; refine (l04Nets_some f hf n hn F hF b o c w.heap.size _ (M.at 0 rfl) (HI.out.later M.below)).mono ?_; rintro e W2 ⟨rfl, hb⟩; rw [hc.out]; have M2 := M.call hb; clear M hb)
        | (go_at_call 44; refine (l04Prices_any p hp _).mono ?_; rintro e W3 ⟨rfl, hb⟩; rw [hpk]; have M3 := M2.call hb; clear M2 hb)
        | (refine wpList_load_part rfl 53 _ rfl ((w.heap.size + 1)) 0 rfl (#[.int .i16 (p 0), .int .i16 (p 1), .int .i16 (p 2)]) _ (M2.at 1 rfl).whole Tryd.underlying53 rfl (by kernel_rfl) ?_))
      go_ret2
      exact ⟨rfl, M3.below⟩
    rcases code_three f n F with hc | hc | hc
    · obtain ⟨hok, hns, h20⟩ := code_0 hc
      have hfits := code_fits hok hns
      have hco := Lib.hid (fun i (hi : i < n) => cost_ok hpk (hfits i hi))
      rw [costSum_yes (by rw [hcc]; exact hc), hcc, hc]
      have hc := Lib.hid hc
      clear bad hcc hfits
      go_enter Tryd.func25, Tryd.ntmps25
      go_upto_region 1 with (fail)
      obtain ⟨W, hW, M⟩ := open2 w (fcells f) 32 #[.int .i16 (p 0), .int .i16 (p 1), .int .i16 (p 2)] 53
      rw [hW]; clear hW
      go_upto_region 6 with (first
        | (go_at_call 40; refine (l04Nets_some f hf n hn F hF b o c w.heap.size _ (M.at 0 rfl) (HI.out.later M.below)).mono ?_; rintro e W2 ⟨rfl, hb⟩; rw [hc.out]; have M2 := M.call hb; clear M hb)
        | (go_at_call 44; refine (l04Prices_any p hp _).mono ?_; rintro e W3 ⟨rfl, hb⟩; rw [hpk]; have M3 := M2.call hb; clear M2 hb)
        | (refine wpList_load_part rfl 53 _ rfl ((w.heap.size + 1)) 0 rfl (#[.int .i16 (p 0), .int .i16 (p 1), .int .i16 (p 2)]) _ (M2.at 1 rfl).whole Tryd.underlying53 rfl (by kernel_rfl) ?_))
      go_wp2_with (first
        | (go_at_call 46; refine (l04Sum_some p hp n h20 F hF hco.out b o c _ (HI.out.later M3.below)).mono ?_; rintro e W4 ⟨rfl, hb⟩; have M4 := M3.call hb; clear M3 hb)
        | (refine wpList_load_part rfl 53 _ rfl ((w.heap.size + 1)) 0 rfl (#[.int .i16 (p 0), .int .i16 (p 1), .int .i16 (p 2)]) _ (M3.at 1 rfl).whole Tryd.underlying53 rfl (by kernel_rfl) ?_))
      go_ret2
      exact ⟨rfl, M4.below⟩
    · rw [costSum_no (by rw [hcc, hc]; decide), hcc, hc]; exact bad 1 hc (by omega)
    · rw [costSum_no (by rw [hcc, hc]; decide), hcc, hc]; exact bad 3 hc (by omega)
set_option maxRecDepth 100000 in
set_option maxHeartbeats 4000000 in
theorem implCostOfNets (f : Fd) (hf : f.Wf) (p : Nat → Int) (hp : WfP p) (n : Nat) (hn : n ≤ 2 ^ 40) (F : Nat → Nat → Int) (hF : ∀ i, i < n → WfN (F i)) (b o c : Nat) (A : Nat → Addr) (w : World) (I : InS w b o n ksNet F) (S0 : Sents w A) :
    Calls Tryd.prog 26 #[.agg (fcells f), vPrices p, .slice (some ⟨b, o, none⟩) n c] w fun e w' => e = .returned (.tuple #[.int .i64 (costSum f p n F), .int .i64 (costCode f p n F)]) ∧ Below w.heap.size w w' := by
  have HI := Lib.hid I
  have S : Hid (Sents w A) := Lib.hid S0
  clear I S0
  have hif := isIfaceErr
  have hz : ∀ i, i < 2 → (Lit.int .u64 ((fun _ : Nat => (0 : Int)) i)).wf = true := fun _ _ => lit_word (n := 0) (by omega)
  have HZ := Lib.hid hz
  clear hz
  have bad : ∀ k : Nat, 1 ≤ k → k ≤ 8 → netErr A (costCode f p n F) = errVal (A k) → Calls Tryd.prog 26 #[.agg (fcells f), vPrices p, .slice (some ⟨b, o, none⟩) n c] w fun e w' => e = .returned (.tuple #[.int .i64 0, .int .i64 k]) ∧ Below w.heap.size w w' := by
    intro k h1 h8 hcode
    have hc := Lib.hid hcode
    clear hcode
    go_enter Tryd.func26, Tryd.ntmps26
    go_upto_region 1 with (fail)
    obtain ⟨W, hW, M⟩ := open2 w (fcells f) 32 #[.int .i16 (p 0), .int .i16 (p 1), .int .i16 (p 2)] 53
    rw [hW]; clear hW
    go_wp2_with (first
      | (go_at_call 36; refine (checkNettingP f hf n hn F hF (fun _ => 0) HZ.out p hp W.heap.size b o c A _ (HI.out.later (M.alloc _ _).below) (Blk.new _ _ _) (S.out.later (M.alloc _ _).below)).mono ?_; rintro e W2 ⟨rfl, hb⟩; rw [costCode_t, hc.out]; have M2 := (M.alloc _ _).call hb; clear M hb; go_wp2_with (go_at_call 37; refine (codeOf_err A k h1 h8 _ (S.out.later M2.below)).mono ?_; rintro e W3 ⟨rfl, rfl⟩))
      | (refine wpList_buildRow rfl 83 53 _ rfl #[.int .i16 (p 0), .int .i16 (p 1), .int .i16 (p 2)] rfl Tryd.underlying83 (by kernel_rfl) (by kernel_rfl) (by decide) (by decide) ?_)
      | (refine wpList_load_part rfl 32 _ rfl (w.heap.size) 0 rfl (fcells f) _ (M.at 0 rfl).whole Tryd.underlying32 rfl (by rw [fcells_size]; exact sizeFd) ?_)
      | (refine wpList_load_part rfl 53 _ rfl ((w.heap.size + 1)) 0 rfl (#[.int .i16 (p 0), .int .i16 (p 1), .int .i16 (p 2)]) _ (M.at 1 rfl).whole Tryd.underlying53 rfl (by kernel_rfl) ?_))
    go_ret2
    exact ⟨rfl, M2.below⟩
  rcases costCode_cases f p n F with ⟨hc, hpk, hnc⟩ | hc | hc
  · obtain ⟨hok, hns, h20⟩ := code_0 hnc
    have hfits := code_fits hok hns
    have HF := Lib.hid hF
    have hco := Lib.hid (fun i (hi : i < n) => cost_ok hpk (hfits i hi))
    have hc0 := Lib.hid (show netErr A (costCode f p n F) = .nilIface by rw [hc]; rfl)
    rw [costSum_yes hc, hc]
    clear bad hc hpk hnc hfits
    go_enter Tryd.func26, Tryd.ntmps26
    go_upto_region 1 with (fail)
    obtain ⟨W, hW, M⟩ := open2 w (fcells f) 32 #[.int .i16 (p 0), .int .i16 (p 1), .int .i16 (p 2)] 53
    rw [hW]; clear hW
    go_upto_region 4 with (first
      | (go_at_call 36; refine (checkNettingP f hf n hn F HF.out (fun _ => 0) HZ.out p hp W.heap.size b o c A _ (HI.out.later (M.alloc _ _).below) (Blk.new _ _ _) (S.out.later (M.alloc _ _).below)).mono ?_; rintro e W2 ⟨rfl, hb⟩; rw [costCode_t, hc0.out]; have M20 := (M.alloc _ _).call hb; have M2 := Mem.init (L := [_, _]) M20; clear M M20 hb)
      | (refine wpList_buildRow rfl 83 53 _ rfl #[.int .i16 (p 0), .int .i16 (p 1), .int .i16 (p 2)] rfl Tryd.underlying83 (by kernel_rfl) (by kernel_rfl) (by decide) (by decide) ?_)
      | (refine wpList_load_part rfl 32 _ rfl (w.heap.size) 0 rfl (fcells f) _ (M.at 0 rfl).whole Tryd.underlying32 rfl (by rw [fcells_size]; exact sizeFd) ?_)
      | (refine wpList_load_part rfl 53 _ rfl ((w.heap.size + 1)) 0 rfl (#[.int .i16 (p 0), .int .i16 (p 1), .int .i16 (p 2)]) _ (M.at 1 rfl).whole Tryd.underlying53 rfl (by kernel_rfl) ?_))
    have M0 : Hid (Mem w W2 [⟨w.heap.size, fcells f, 32⟩, ⟨w.heap.size + 1, #[.int .i16 (p 0), .int .i16 (p 1), .int .i16 (p 2)], 53⟩]) := Lib.hid M2
    clear M2
    go_wp2_with fail
    go_loopw [9, 24] (fun v i wr => ∃ k : Nat, k ≤ n ∧ v = .int .i64 (costTo p F k) ∧ i = .int .i64 k ∧ Hid (Mem w wr [⟨w.heap.size, fcells f, 32⟩, ⟨w.heap.size + 1, #[.int .i16 (p 0), .int .i16 (p 1), .int .i16 (p 2)], 53⟩])) (fun _ i _ => n - (intOf i).toNat)
    case atStart => exact ⟨0, by omega, rfl, rfl, M0⟩
    case round =>
      clear M0
      obtain ⟨k, hk, rfl, rfl, hM⟩ := hrel
      by_cases hlt : k < n
      · have hr : wr.rangeAt b (o + k * 4) (#[.int .i8 (F k 0), .int .i8 (F k 1), .int .i8 (F k 2), .int .i8 (F k 3)] : Array Value).toList := HI.out.elem (ks := ksNet) (by decide) hM.out.below hlt
        have hok2 := hco.out k hlt
        have ha := HF.out k hlt
        have hkk : Hid (costTo p F (k + 1) = costTo p F k + costA p (F k)) := Lib.hid rfl
        have h1 := costTo_in (p := p) (F := F) (n := k) (fun i hi => hco.out i (by omega))
        have h2 := costA_in hok2
        obtain ⟨cK, hcK⟩ : ∃ cK, costTo p F k = cK := ⟨_, rfl⟩
        rw [hcK] at h1 hkk ⊢
        clear hcK
        obtain ⟨h1a, h1b⟩ := h1
        obtain ⟨h2a, h2b⟩ := h2
        have h3 : cK ≤ 300000 := by omega
        clear h1b
        go_upto_region 8 with (refine wpList_load_part rfl 34 _ rfl b (o + k * 4) rfl #[.int .i8 (F k 0), .int .i8 (F k 1), .int .i8 (F k 2), .int .i8 (F k 3)] _ hr Tryd.underlying34 rfl (by kernel_rfl) ?_)
        clear hr
        have M4 := hM.out.alloc #[.int .i8 (F k 0), .int .i8 (F k 1), .int .i8 (F k 2), .int .i8 (F k 3)] 34
        obtain ⟨nb, hnb⟩ : ∃ nb, wr.heap.size = nb := ⟨_, rfl⟩
        rw [hnb] at M4 ⊢
        generalize wr.alloc (.cells #[.int .i8 (F k 0), .int .i8 (F k 1), .int .i8 (F k 2), .int .i8 (F k 3)] 34) = W4 at M4 ⊢
        clear hnb
        go_wp2_with (first
          | (go_at_call 47; refine (costOf_any p (F k) hp ha hok2 _).mono ?_; rintro e W5 ⟨rfl, hb5⟩; have M50 := M4.call hb5; have M5 := Mem.init (L := [_, _]) M50; clear M4 M50 hb5)
          | (refine wpList_load_part rfl 53 _ rfl ((w.heap.size + 1)) 0 rfl (#[.int .i16 (p 0), .int .i16 (p 1), .int .i16 (p 2)]) _ (M4.at 1 rfl).whole Tryd.underlying53 rfl (by kernel_rfl) ?_)
          | (refine wpList_load_part rfl 34 _ rfl nb 0 rfl (#[.int .i8 ((F k) 0), .int .i8 ((F k) 1), .int .i8 ((F k) 2), .int .i8 ((F k) 3)]) _ (M4.at 2 rfl).whole Tryd.underlying34 rfl (by kernel_rfl) ?_))
        go_roundw
        case rel => exact ⟨k + 1, by omega, by rw [hkk.out], by go_num, Lib.hid M5⟩
        case measure => simp [intOf]; omega
      · obtain rfl : k = n := by omega
        have M9 := hM.out
        go_wp2_with fail
        go_ret2
        exact ⟨rfl, M9.below⟩
  · rw [costSum_no (by rw [hc]; decide), hc]; exact bad 1 (by omega) (by omega) (by rw [hc]; rfl)
  · rw [costSum_no (by rw [hc]; decide), hc]; exact bad 3 (by omega) (by omega) (by rw [hc]; rfl)
end
section
open Go Go.RowKit

def costOneCode (f : Fd) (p a : Nat → Int) : Int := costCode f p 1 (fun _ => a)
def costNet (f : Fd) (p a : Nat → Int) : Int := costSum f p 1 (fun _ => a)
theorem one_no {f : Fd} {p a : Nat → Int} (h : (okF f && netOk f a) = false) : costOneCode f p a = 1 ∧ costNet f p a = 0 := by
  have e : costOneCode f p a = 1 := by
    unfold costOneCode costCode
    rw [netsCode_one, h]
    cases pricesOk p <;> rfl
  exact ⟨e, costSum_no (by rw [show costCode f p 1 (fun _ => a) = 1 from e]; decide)⟩
theorem one_bad {f : Fd} {p a : Nat → Int} (h : pricesOk p = false) : costOneCode f p a = 1 ∧ costNet f p a = 0 := by
  have e : costOneCode f p a = 1 := by
    unfold costOneCode costCode
    rw [h]; rfl
  exact ⟨e, costSum_no (by rw [show costCode f p 1 (fun _ => a) = 1 from e]; decide)⟩
theorem one_yes {f : Fd} {p a : Nat → Int} (h : (okF f && netOk f a) = true) (hp : pricesOk p = true) : costOneCode f p a = 0 ∧ costNet f p a = costA p a := by
  have e : costOneCode f p a = 0 := by
    unfold costOneCode costCode
    rw [netsCode_one, h, hp]; rfl
  refine ⟨e, ?_⟩
  unfold costNet
  rw [costSum_yes (show costCode f p 1 (fun _ => a) = 0 from e)]
  show 0 + costA p a = costA p a
  omega
theorem one_ok {f : Fd} {p a : Nat → Int} (h : (okF f && netOk f a) = true) (hp : pricesOk p = true) : CostOk p a := by
  have hn : netsCode f 1 (fun _ => a) = 0 := by rw [netsCode_one, h]; rfl
  obtain ⟨h1, h2, _⟩ := code_0 hn
  exact cost_ok hp (code_fits h1 h2 0 (by omega))
set_option maxRecDepth 100000 in
set_option maxHeartbeats 4000000 in
theorem specCostOfNet (f : Fd) (hf : f.Wf) (p : Nat → Int) (hp : WfP p) (a : Nat → Int) (ha : WfN a) (w : World) : Calls Tryd.prog 22 #[.agg (fcells f), vPrices p, vNet a] w fun e w' => e = .returned (.tuple #[.int .i64 (costNet f p a), .int .i64 (costOneCode f p a)]) ∧ Below w.heap.size w w' := by
  have LF : True := trivial
  cases hv : (okF f && netOk f a) with
  | false =>
    rw [(one_no hv).1, (one_no hv).2]
    go_enter Tryd.func22, Tryd.ntmps22
    go_upto_region 1 with (fail)
    obtain ⟨W, hW, M⟩ := open3 w (fcells f) 32 #[.int .i16 (p 0), .int .i16 (p 1), .int .i16 (p 2)] 53 #[.int .i8 (a 0), .int .i8 (a 1), .int .i8 (a 2), .int .i8 (a 3)] 34
    rw [hW]; clear hW
    go_wp2_with (first
      | (refine wpList_load_part rfl 32 _ rfl w.heap.size 0 rfl (fcells f) _ (M.at 0 rfl).whole Tryd.underlying32 rfl (by rw [fcells_size]; exact sizeFd) ?_)
      | (refine wpList_load_part rfl 34 _ rfl (w.heap.size + 1 + 1) 0 rfl #[.int .i8 (a 0), .int .i8 (a 1), .int .i8 (a 2), .int .i8 (a 3)] _ (M.at 2 rfl).whole Tryd.underlying34 rfl (by kernel_rfl) ?_)
      | (go_at_call 32; refine (specValidNet f hf a ha _).mono ?_; rintro e W2 ⟨rfl, hb⟩; rw [hv]; have M2 := M.call hb; clear M hb; go_wp2_with fail))
    go_ret2
    exact ⟨rfl, M2.below⟩
  | true =>
    cases hpk : pricesOk p with
    | false =>
      rw [(one_bad hpk).1, (one_bad hpk).2]
      go_enter Tryd.func22, Tryd.ntmps22
      go_upto_region 1 with (fail)
      obtain ⟨W, hW, M⟩ := open3 w (fcells f) 32 #[.int .i16 (p 0), .int .i16 (p 1), .int .i16 (p 2)] 53 #[.int .i8 (a 0), .int .i8 (a 1), .int .i8 (a 2), .int .i8 (a 3)] 34
      rw [hW]; clear hW
      go_wp2_with (first
        | (refine wpList_load_part rfl 32 _ rfl w.heap.size 0 rfl (fcells f) _ (M.at 0 rfl).whole Tryd.underlying32 rfl (by rw [fcells_size]; exact sizeFd) ?_)
        | (refine wpList_load_part rfl 34 _ rfl (w.heap.size + 1 + 1) 0 rfl #[.int .i8 (a 0), .int .i8 (a 1), .int .i8 (a 2), .int .i8 (a 3)] _ (M.at 2 rfl).whole Tryd.underlying34 rfl (by kernel_rfl) ?_)
        | (go_at_call 32; refine (specValidNet f hf a ha _).mono ?_; rintro e W2 ⟨rfl, hb⟩; rw [hv]; have M2 := M.call hb; clear M hb; go_wp2_with (first
            | (go_at_call 44; refine (l04Prices_any p hp _).mono ?_; rintro e W3 ⟨rfl, hb⟩; rw [hpk]; have M3 := M2.call hb; clear M2 hb; go_wp2_with fail)
            | (refine wpList_load_wanted rfl 53 _ rfl (w.heap.size + 1) 0 rfl #[.int .i16 (p 0), .int .i16 (p 1), .int .i16 (p 2)] _ (M2.at 1 rfl).whole Tryd.underlying53 rfl (by kernel_rfl) ?_))))
      go_ret2
      exact ⟨rfl, M3.below⟩
    | true =>
      have hok := one_ok hv hpk
      rw [(one_yes hv hpk).1, (one_yes hv hpk).2]
      go_enter Tryd.func22, Tryd.ntmps22
      go_upto_region 1 with (fail)
      obtain ⟨W, hW, M⟩ := open3 w (fcells f) 32 #[.int .i16 (p 0), .int .i16 (p 1), .int .i16 (p 2)] 53 #[.int .i8 (a 0), .int .i8 (a 1), .int .i8 (a 2), .int .i8 (a 3)] 34
      rw [hW]; clear hW
      go_wp2_with (first
        | (refine wpList_load_part rfl 32 _ rfl w.heap.size 0 rfl (fcells f) _ (M.at 0 rfl).whole Tryd.underlying32 rfl (by rw [fcells_size]; exact sizeFd) ?_)
        | (refine wpList_load_part rfl 34 _ rfl (w.heap.size + 1 + 1) 0 rfl #[.int .i8 (a 0), .int .i8 (a 1), .int .i8 (a 2), .int .i8 (a 3)] _ (M.at 2 rfl).whole Tryd.underlying34 rfl (by kernel_rfl) ?_)
        | (go_at_call 32; refine (specValidNet f hf a ha _).mono ?_; rintro e W2 ⟨rfl, hb⟩; rw [hv]; have M2 := M.call hb; clear M hb; go_wp2_with (first
            | (go_at_call 44; refine (l04Prices_any p hp _).mono ?_; rintro e W3 ⟨rfl, hb⟩; rw [hpk]; have M3 := M2.call hb; clear M2 hb; go_wp2_with (first
                  | (refine wpList_load_part rfl 53 _ rfl (w.heap.size + 1) 0 rfl #[.int .i16 (p 0), .int .i16 (p 1), .int .i16 (p 2)] _ (M3.at 1 rfl).whole Tryd.underlying53 rfl (by kernel_rfl) ?_)
                  | (refine wpList_load_part rfl 34 _ rfl (w.heap.size + 1 + 1) 0 rfl #[.int .i8 (a 0), .int .i8 (a 1), .int .i8 (a 2), .int .i8 (a 3)] _ (M3.at 2 rfl).whole Tryd.underlying34 rfl (by kernel_rfl) ?_)
                  | (go_at_call 45; refine (l04Cost_any p a hp ha hok _).mono ?_; rintro e W4 ⟨rfl, hb⟩; have M4 := M3.call hb; clear M3 hb)))
            | (refine wpList_load_wanted rfl 53 _ rfl (w.heap.size + 1) 0 rfl #[.int .i16 (p 0), .int .i16 (p 1), .int .i16 (p 2)] _ (M2.at 1 rfl).whole Tryd.underlying53 rfl (by kernel_rfl) ?_))))
      go_ret2
      exact ⟨rfl, M4.below⟩
set_option maxRecDepth 100000 in
set_option maxHeartbeats 2000000 in
theorem implCostOfNet (f : Fd) (hf : f.Wf) (p : Nat → Int) (hp : WfP p) (a : Nat → Int) (ha : WfN a) (A : Nat → Addr) (w : World) (S0 : Sents w A) : Calls Tryd.prog 24 #[.agg (fcells f), vPrices p, vNet a] w fun e w' => e = .returned (.tuple #[.int .i64 (costNet f p a), .int .i64 (costOneCode f p a)]) ∧ Below w.heap.size w w' := by
  have S : Hid (Sents w A) := Lib.hid S0
  clear S0
  have hF : Hid (∀ i, i < 1 → WfN ((fun _ : Nat => a) i)) := Lib.hid (fun _ _ => ha)
  go_enter Tryd.func24, Tryd.ntmps24
  go_upto_region 1 with (fail)
  obtain ⟨W, hW, M⟩ := open3 w (fcells f) 32 #[.int .i16 (p 0), .int .i16 (p 1), .int .i16 (p 2)] 53 #[.int .i8 (a 0), .int .i8 (a 1), .int .i8 (a 2), .int .i8 (a 3)] 34
  rw [hW]; clear hW
  go_wp2_with (first
    | (go_at_call 26; refine (implCostOfNets f hf p hp 1 (by omega) (fun _ => a) hF.out W.heap.size 0 1 A _ (row_inS (Blk.new _ _ _)) (S.out.later (M.alloc _ _).below)).mono ?_; rintro e W2 ⟨rfl, hb⟩; have M2 := (M.alloc _ _).call hb; clear M)
    | (refine wpList_buildRow rfl 46 34 _ rfl #[.int .i8 (a 0), .int .i8 (a 1), .int .i8 (a 2), .int .i8 (a 3)] rfl Tryd.underlying46 (by kernel_rfl) (by kernel_rfl) (by decide) (by decide) ?_)
    | (refine wpList_load_part rfl 32 _ rfl w.heap.size 0 rfl (fcells f) _ (M.at 0 rfl).whole Tryd.underlying32 rfl (by rw [fcells_size]; exact sizeFd) ?_)
    | (refine wpList_load_part rfl 53 _ rfl (w.heap.size + 1) 0 rfl #[.int .i16 (p 0), .int .i16 (p 1), .int .i16 (p 2)] _ (M.at 1 rfl).whole Tryd.underlying53 rfl (by kernel_rfl) ?_)
    | (refine wpList_load_part rfl 34 _ rfl (w.heap.size + 1 + 1) 0 rfl #[.int .i8 (a 0), .int .i8 (a 1), .int .i8 (a 2), .int .i8 (a 3)] _ (M.at 2 rfl).whole Tryd.underlying34 rfl (by kernel_rfl) ?_))
  go_ret2
  exact ⟨rfl, M2.below⟩
end
end Go.Proofs.YtkhhkacmfkipgaaDoor
