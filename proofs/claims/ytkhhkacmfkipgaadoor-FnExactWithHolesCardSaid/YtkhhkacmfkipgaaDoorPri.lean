/-
  Prices: which are valid: the model's, the program's.
-/
import Derived.Test.YtkhhkacmfkipgaaDoorStrEq
import Derived.Test.YtkhhkacmfkipgaaDoorSpec0
import Derived.Test.YtkhhkacmfkipgaaDoorEq
import Derived.OwnWalk
import Derived.Outline
import Derived.Deep.DeepCutAuto
namespace Go.Proofs.YtkhhkacmfkipgaaDoor
open Go Go.RowKit

abbrev ksPrices : List IntKind := [.i16, .i16, .i16]
/-- Prices' value. -/
abbrev vPrices (p : Nat → Int) : Value := .agg #[.int .i16 (p 0), .int .i16 (p 1), .int .i16 (p 2)]
/-- Each number fits its kind. -/
structure WfP (p : Nat → Int) : Prop where
  b0 : -32768 ≤ p 0 ∧ p 0 ≤ 32767
  b1 : -32768 ≤ p 1 ∧ p 1 ≤ 32767
  b2 : -32768 ≤ p 2 ∧ p 2 ≤ 32767
def noPrices (p : Nat → Int) : Bool := seq 3 p (fun _ => 0)
def pricesOk (p : Nat → Int) : Bool := inB (p 0) 0 100 && inB (p 1) 0 100 && inB (p 2) 0 100 && !noPrices p
theorem toPrices_any (p : Nat → Int) (w : World) : Calls Tryd.prog 23 #[vPrices p] w fun e w' => e = .returned (vPrices p) ∧ Below w.heap.size w w' := by
  go_enter Tryd.func23, Tryd.ntmps23
  go_wp2_with fail
  exact bodyPost_ret (v := vPrices p) (by simp [results, Tryd.results23, go_sem]) rfl ⟨rfl, (((Below.refl _ _).alloc (Nat.le_refl _) _).alloc (by simp) _).alloc (by simp; omega) _⟩
theorem run_eqPrices (p : Nat → Int) (hp : WfP p) (w : World) : (Op.equalIn 10000 53 (vPrices p) (.agg #[.int .i16 0, .int .i16 0, .int .i16 0])).run Tryd.prog w = .ok (noPrices p) w :=
  run_equalIn_str (ks := ksPrices) (m := 3) (fun _ => p) (fun _ _ => 0) 0 0 (fs := Tryd.prog.fieldsOf 53) (by kernel_rfl) (by kernel_rfl) (by kernel_rfl) (by kernel_rfl) (by omega)
    (fun j hj => by
      match j, hj with
      | 0, _ => exact lit_i16 hp.b0
      | 1, _ => exact lit_i16 hp.b1
      | 2, _ => exact lit_i16 hp.b2) (fun j hj => by
      match j, hj with
      | 0, _ => exact lit_i16 (by omega)
      | 1, _ => exact lit_i16 (by omega)
      | 2, _ => exact lit_i16 (by omega)) w
theorem wpList_neq_wanted {P : Program} {ops : Array Oper} {Q : Exit → Act → World → Prop} {rest : List Oper} {op : Oper} {a : Act} {w : World} (hw : Region.wanted op (yielded ops a.tmps) = true) (t t' : TypeId) (x y : Operand) (ho : op.op = .binOp .neq t x y t')
    (xs ys : Array Value) (hx : a.eval x = .agg xs) (hy : a.eval y = .agg ys) (hm : P.eqGuardType P.depth t = false) (r : Bool) (hr : (Op.equalIn 10000 t (.agg xs) (.agg ys)).run P w = .ok r w)
    (h : wpList P ops Q rest (a.put op.dst (.bool (!r))) w) : wpList P ops Q (op :: rest) a w :=
  wpList_step fun K hK => by
    rw [if_pos hw]
    unfold Oper.wp execOp
    simp only [ho, hx, hy, Sem.run_bind, run_eqGuard_agg w .neq t x y xs ys hm, Result.andThen_ok, run_neq_struct w t xs ys, hr, Sem.run_pure]
    exact hK _ _ h
set_option maxRecDepth 100000 in
set_option maxHeartbeats 1000000 in
theorem l04Prices_any (p : Nat → Int) (hp : WfP p) (w : World) : Calls Tryd.prog 44 #[vPrices p] w fun e w' => e = .returned (.bool (pricesOk p)) ∧ Below w.heap.size w w' := by
  have heq := Lib.hid (run_eqPrices p hp)
  obtain ⟨⟨x1, x2⟩, ⟨y1, y2⟩, ⟨z1, z2⟩⟩ := hp
  go_enter Tryd.func44, Tryd.ntmps44
  go_upto_region 1 with (fail)
  obtain ⟨W, hW, M⟩ := open1 w #[.int .i16 (p 0), .int .i16 (p 1), .int .i16 (p 2)] 53
  rw [hW]; clear hW
  have c0 := (M.at 0 rfl).cell (i := 0) rfl
  have c1 := (M.at 0 rfl).cell (i := 1) rfl
  have c2 := (M.at 0 rfl).cell (i := 2) rfl
  have ok1 : True := trivial
  have ok2 : True := trivial
  cases hA : inB (p 0) 0 100 with
  | false =>
    go_wp2_with (go_at_call 67; refine (l00In_any _ _ _ _).mono ?_; rintro e w' ⟨rfl, rfl⟩; rw [hA]; go_wp2_with fail)
    go_ret
    exact ⟨by unfold pricesOk; rw [hA]; rfl, M.below⟩
  | true =>
    cases hB : inB (p 1) 0 100 with
    | false =>
      go_wp2_with (first
        | (clear ok1; go_at_call 67; refine (l00In_any _ _ _ _).mono ?_; rintro e w' ⟨rfl, rfl⟩; rw [hA])
        | (go_at_call 67; refine (l00In_any _ _ _ _).mono ?_; rintro e w' ⟨rfl, rfl⟩; rw [hB]; go_wp2_with fail))
      go_ret
      exact ⟨by unfold pricesOk; rw [hA, hB]; rfl, M.below⟩
    | true =>
      cases hC : inB (p 2) 0 100 with
      | false =>
        go_wp2_with (first
          | (clear ok1; go_at_call 67; refine (l00In_any _ _ _ _).mono ?_; rintro e w' ⟨rfl, rfl⟩; rw [hA])
          | (clear ok2; go_at_call 67; refine (l00In_any _ _ _ _).mono ?_; rintro e w' ⟨rfl, rfl⟩; rw [hB])
          | (go_at_call 67; refine (l00In_any _ _ _ _).mono ?_; rintro e w' ⟨rfl, rfl⟩; rw [hC]; go_wp2_with fail))
        go_ret
        exact ⟨by unfold pricesOk; rw [hA, hB, hC]; rfl, M.below⟩
      | true =>
        go_wp2_with (first
          | (clear ok1; go_at_call 67; refine (l00In_any _ _ _ _).mono ?_; rintro e w' ⟨rfl, rfl⟩; rw [hA])
          | (clear ok2; go_at_call 67; refine (l00In_any _ _ _ _).mono ?_; rintro e w' ⟨rfl, rfl⟩; rw [hB])
          | (go_at_call 67; refine (l00In_any _ _ _ _).mono ?_; rintro e w' ⟨rfl, rfl⟩; rw [hC])
          | (refine wpList_neq_wanted rfl 53 _ _ _ rfl #[.int .i16 (p 0), .int .i16 (p 1), .int .i16 (p 2)] #[.int .i16 0, .int .i16 0, .int .i16 0] rfl rfl (by kernel_rfl) _ (heq.out _) ?_))
        go_ret
        exact ⟨by unfold pricesOk; rw [hA, hB, hC]; rfl, M.below⟩
theorem charges_any (p : Nat → Int) (w : World) : Calls Tryd.prog 68 #[vPrices p] w fun e w' => e = .returned (.agg #[.iface 127 (.int .i16 (p 0)), .iface 128 (.int .i16 (p 1)), .iface 129 (.int .i16 (p 2))]) ∧ Below w.heap.size w w' := by
  go_enter Tryd.func68, Tryd.ntmps68
  go_upto_region 1 with (fail)
  obtain ⟨W, hW, M⟩ := open2 w #[.int .i16 (p 0), .int .i16 (p 1), .int .i16 (p 2)] 53 #[.nilIface, .nilIface, .nilIface] 99
  rw [hW]; clear hW
  have c0 := (M.at 0 rfl).cell (i := 0) rfl
  have c1 := (M.at 0 rfl).cell (i := 1) rfl
  have c2 := (M.at 0 rfl).cell (i := 2) rfl
  have e0 := (M.at 1 rfl).free 0
  have e1 := (M.at 1 rfl).free 1
  have e2 := (M.at 1 rfl).free 2
  have d0 := (M.at 1 rfl).cell (i := 0) rfl
  have d1 := (M.at 1 rfl).cell (i := 1) rfl
  have d2 := (M.at 1 rfl).cell (i := 2) rfl
  go_wp2_with fail
  have M2 : Mem w _ [⟨w.heap.size, #[.int .i16 (p 0), .int .i16 (p 1), .int .i16 (p 2)], 53⟩, ⟨w.heap.size + 1, #[.iface 127 (.int .i16 (p 0)), .iface 128 (.int .i16 (p 1)), .iface 129 (.int .i16 (p 2))], 99⟩] := ((M.set 1 0 (.iface 127 (.int .i16 (p 0))) rfl _ rfl).set 1 1 (.iface 128 (.int .i16 (p 1))) rfl _ rfl).set 1 2 (.iface 129 (.int .i16 (p 2))) rfl _ rfl
  exact bodyPost_ret (results_cell_row rfl _ _ (w.heap.size + 1) 99 _ _ _ rfl (M2.at 1 rfl) Tryd.underlying99 rfl (by kernel_rfl)) rfl ⟨rfl, M2.below⟩
theorem price0 (n : Int) (hn : -32768 ≤ n ∧ n ≤ 32767) (w : World) : Calls Tryd.prog 118 #[.int .i16 n] w fun e w' => e = .returned (.int .i64 n) ∧ w = w' := by
  obtain ⟨h1, h2⟩ := hn
  go_enter Tryd.func118, Tryd.ntmps118
  go_wp2_with fail
  go_ret
  exact ⟨rfl, rfl⟩
theorem meth0 (v : Value) (w : World) : (Go.method 286 127 v "loop.example/g01338/impl.price").run Tryd.prog w = .ok (118, v) w := by kernel_rfl
theorem idxC0 (p : Nat → Int) (w : World) : (Instr.index 99 (.agg #[.iface 127 (.int .i16 (p 0)), .iface 128 (.int .i16 (p 1)), .iface 129 (.int .i16 (p 2))]) (.int .i64 0)).run Tryd.prog w = .ok (.iface 127 (.int .i16 (p 0))) w := by kernel_rfl
theorem price1 (n : Int) (hn : -32768 ≤ n ∧ n ≤ 32767) (w : World) : Calls Tryd.prog 119 #[.int .i16 n] w fun e w' => e = .returned (.int .i64 n) ∧ w = w' := by
  obtain ⟨h1, h2⟩ := hn
  go_enter Tryd.func119, Tryd.ntmps119
  go_wp2_with fail
  go_ret
  exact ⟨rfl, rfl⟩
theorem meth1 (v : Value) (w : World) : (Go.method 286 128 v "loop.example/g01338/impl.price").run Tryd.prog w = .ok (119, v) w := by kernel_rfl
theorem idxC1 (p : Nat → Int) (w : World) : (Instr.index 99 (.agg #[.iface 127 (.int .i16 (p 0)), .iface 128 (.int .i16 (p 1)), .iface 129 (.int .i16 (p 2))]) (.int .i64 1)).run Tryd.prog w = .ok (.iface 128 (.int .i16 (p 1))) w := by kernel_rfl
theorem price2 (n : Int) (hn : -32768 ≤ n ∧ n ≤ 32767) (w : World) : Calls Tryd.prog 120 #[.int .i16 n] w fun e w' => e = .returned (.int .i64 n) ∧ w = w' := by
  obtain ⟨h1, h2⟩ := hn
  go_enter Tryd.func120, Tryd.ntmps120
  go_wp2_with fail
  go_ret
  exact ⟨rfl, rfl⟩
theorem meth2 (v : Value) (w : World) : (Go.method 286 129 v "loop.example/g01338/impl.price").run Tryd.prog w = .ok (120, v) w := by kernel_rfl
theorem idxC2 (p : Nat → Int) (w : World) : (Instr.index 99 (.agg #[.iface 127 (.int .i16 (p 0)), .iface 128 (.int .i16 (p 1)), .iface 129 (.int .i16 (p 2))]) (.int .i64 2)).run Tryd.prog w = .ok (.iface 129 (.int .i16 (p 2))) w := by kernel_rfl
theorem pr_low0 {p : Nat → Int} (h : p 0 < 0) : pricesOk p = false := by
  unfold pricesOk
  rw [inB_false (n := p 0) (.inl h)]; simp
theorem pr_high0 {p : Nat → Int} (h : 100 < p 0) : pricesOk p = false := by
  unfold pricesOk
  rw [inB_false (n := p 0) (.inr h)]; simp
theorem pr_low1 {p : Nat → Int} (h : p 1 < 0) : pricesOk p = false := by
  unfold pricesOk
  rw [inB_false (n := p 1) (.inl h)]; simp
theorem pr_high1 {p : Nat → Int} (h : 100 < p 1) : pricesOk p = false := by
  unfold pricesOk
  rw [inB_false (n := p 1) (.inr h)]; simp
theorem pr_low2 {p : Nat → Int} (h : p 2 < 0) : pricesOk p = false := by
  unfold pricesOk
  rw [inB_false (n := p 2) (.inl h)]; simp
theorem pr_high2 {p : Nat → Int} (h : 100 < p 2) : pricesOk p = false := by
  unfold pricesOk
  rw [inB_false (n := p 2) (.inr h)]; simp
set_option maxRecDepth 100000 in
set_option maxHeartbeats 2000000 in
theorem validPrices_any (p : Nat → Int) (hp : WfP p) (w : World) : Calls Tryd.prog 56 #[vPrices p] w fun e w' => e = .returned (.bool (pricesOk p)) ∧ Below w.heap.size w w' := by
  have heq := Lib.hid (run_eqPrices p hp)
  obtain ⟨hp0, hp1, hp2⟩ := hp
  go_enter Tryd.func56, Tryd.ntmps56
  go_upto_region 1 with (fail)
  obtain ⟨W, hW, M⟩ := open1 w #[.int .i16 (p 0), .int .i16 (p 1), .int .i16 (p 2)] 53
  rw [hW]; clear hW
  go_wp2_with (first
    | (go_at_call 68; refine (charges_any p _).mono ?_; rintro e W2 ⟨rfl, hb⟩; have M2 := M.call hb)
    | (refine wpList_load_part rfl 53 _ rfl w.heap.size 0 rfl #[.int .i16 (p 0), .int .i16 (p 1), .int .i16 (p 2)] _ (M.at 0 rfl).whole Tryd.underlying53 rfl (by kernel_rfl) ?_))
  refine wp_loop_rounds 4 ?_
  rw [rounds_succ]
  clear M hb
  have hq0 : -32768 ≤ p 0 ∧ p 0 ≤ 32767 := hp0
  have hq1 : -32768 ≤ p 1 ∧ p 1 ≤ 32767 := hp1
  have hq2 : -32768 ≤ p 2 ∧ p 2 ≤ 32767 := hp2
  have W2e : True := trivial
  by_cases a0 : p 0 < 0
  · go_wp2_with (first | (rw [idxC0]; go_simp) | (rw [meth0]; go_simp) | (go_at_call 118; refine (price0 (p 0) hq0 _).mono ?_; rintro e w' ⟨rfl, rfl⟩))
    go_ret
    exact ⟨by rw [pr_low0 a0]; rfl, M2.below⟩
  · by_cases b0 : 100 < p 0
    · go_wp2_with (first | (rw [idxC0]; go_simp) | (rw [meth0]; go_simp) | (go_at_call 118; refine (price0 (p 0) hq0 _).mono ?_; rintro e w' ⟨rfl, rfl⟩))
      go_ret
      exact ⟨by rw [pr_high0 b0]; rfl, M2.below⟩
    · go_wp2_with (first | (rw [idxC0]; go_simp) | (rw [meth0]; go_simp) | (go_at_call 118; refine (price0 (p 0) hq0 _).mono ?_; rintro e w' ⟨rfl, rfl⟩))
      rw [rounds_succ]
      by_cases a1 : p 1 < 0
      · go_wp2_with (first | (rw [idxC1]; go_simp) | (rw [meth1]; go_simp) | (go_at_call 119; refine (price1 (p 1) hq1 _).mono ?_; rintro e w' ⟨rfl, rfl⟩))
        go_ret
        exact ⟨by rw [pr_low1 a1]; rfl, M2.below⟩
      · by_cases b1 : 100 < p 1
        · go_wp2_with (first | (rw [idxC1]; go_simp) | (rw [meth1]; go_simp) | (go_at_call 119; refine (price1 (p 1) hq1 _).mono ?_; rintro e w' ⟨rfl, rfl⟩))
          go_ret
          exact ⟨by rw [pr_high1 b1]; rfl, M2.below⟩
        · go_wp2_with (first | (rw [idxC1]; go_simp) | (rw [meth1]; go_simp) | (go_at_call 119; refine (price1 (p 1) hq1 _).mono ?_; rintro e w' ⟨rfl, rfl⟩))
          rw [rounds_succ]
          have hx2 : True := trivial
          by_cases a2 : p 2 < 0
          · go_wp2_with (first | (rw [idxC2]; go_simp) | (rw [meth2]; go_simp) | (go_at_call 120; refine (price2 (p 2) hq2 _).mono ?_; rintro e w' ⟨rfl, rfl⟩))
            go_ret
            exact ⟨by rw [pr_low2 a2]; rfl, M2.below⟩
          · by_cases b2 : 100 < p 2
            · go_wp2_with (first | (rw [idxC2]; go_simp) | (rw [meth2]; go_simp) | (go_at_call 120; refine (price2 (p 2) hq2 _).mono ?_; rintro e w' ⟨rfl, rfl⟩))
              go_ret
              exact ⟨by rw [pr_high2 b2]; rfl, M2.below⟩
            · go_wp2_with (first | (rw [idxC2]; go_simp) | (rw [meth2]; go_simp) | (go_at_call 120; refine (price2 (p 2) hq2 _).mono ?_; rintro e w' ⟨rfl, rfl⟩))
              rw [rounds_succ]
              have hin : Hid (pricesOk p = !noPrices p) := Lib.hid (by
                unfold pricesOk
                rw [inB_iff.2 ⟨by omega, by omega⟩, inB_iff.2 ⟨by omega, by omega⟩, inB_iff.2 ⟨by omega, by omega⟩]; rfl)
              go_wp2_with (first
                | (refine wpList_neq_wanted rfl 53 _ _ _ rfl #[.int .i16 (p 0), .int .i16 (p 1), .int .i16 (p 2)] #[.int .i16 0, .int .i16 0, .int .i16 0] rfl rfl (by kernel_rfl) _ (heq.out _) ?_)
                | (refine wpList_load_part rfl 53 _ rfl w.heap.size 0 rfl #[.int .i16 (p 0), .int .i16 (p 1), .int .i16 (p 2)] _ (M2.at 0 rfl).whole Tryd.underlying53 rfl (by kernel_rfl) ?_))
              go_ret
              exact ⟨by rw [hin.out]; rfl, M2.below⟩
end Go.Proofs.YtkhhkacmfkipgaaDoor
