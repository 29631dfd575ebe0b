/-
  What panics where a number is no place, and how it is recovered.
-/
import Derived.Test.YteclngooblafoaaDoorCovF
import Derived.Defers
import Derived.Recover
import Derived.Laws.Pointers
namespace Go.Proofs.YteclngooblafoaaDoor
open Go Go.RowKit Go.Stop Go.Extern.Stop

theorem wpList_build0 {P : Program} {ops : Array Oper} {rest : List Oper} {op : Oper} {a : Act} {w : World} {Q : Exit → Act → World → Prop} (hgd : op.guard = none) (t : TypeId) (ho : op.op = .build t #[]) (v : Value) (hr : (Instr.build t #[]).run P w = .ok v w)
    (h : wpList P ops Q rest (a.put op.dst v) w) : wpList P ops Q (op :: rest) a w := by
  refine wpList_run hgd ?_ h
  unfold execOp
  simp only [ho, List.map_toArray, List.map_nil, Sem.run_bind, hr, Result.andThen_ok, Sem.run_pure]
theorem wpList_build1 {P : Program} {ops : Array Oper} {rest : List Oper} {op : Oper} {a : Act} {w : World} {Q : Exit → Act → World → Prop} (hgd : op.guard = none) (t : TypeId) (x : Operand) (ho : op.op = .build t #[(0, x)]) (u : Value) (hx : a.eval x = u) (v : Value) (hr : (Instr.build t #[(0, u)]).run P w = .ok v w)
    (h : wpList P ops Q rest (a.put op.dst v) w) : wpList P ops Q (op :: rest) a w := by
  refine wpList_run hgd ?_ h
  unfold execOp
  simp only [ho, List.map_toArray, List.map_cons, List.map_nil, hx, Sem.run_bind, hr, Result.andThen_ok, Sem.run_pure]
theorem bNoPlace (a : Addr) (w : World) : (Instr.build 110 #[(0, errVal a)]).run Tryd.prog w = .ok (.agg #[errVal a]) w := by kernel_rfl
/-- What coverFrom panics with. -/
def plcErr (a : Addr) : Value := .iface 110 (.agg #[errVal a])
set_option maxRecDepth 100000 in
set_option maxHeartbeats 4000000 in
theorem coverFrom_bad (f : Fd) (hf : f.Wf) (hok : okF f = true) (c : Int) (hc0 : -9223372036854775808 ≤ c ∧ c ≤ 9223372036854775807) (x y : Int) (A : Nat → Addr) (a : Addr) (he : placeErr A f c = errVal a) (w : World) (S0 : Sents w A) :
    Calls Tryd.prog 54 #[.agg (fcells f), .int .i64 c, .int .i64 x, .int .i64 y] w fun e w' => e = .panicked [{ v := plcErr a, recovered := false }] ∧ Below w.heap.size w w' := by
  have S : Hid (Sents w A) := Lib.hid S0
  clear S0
  have hif := isIfaceErr
  have HE := Lib.hid he
  clear he
  go_enter Tryd.func54, Tryd.ntmps54
  go_upto_region 1 with (fail)
  rw [zero2]
  obtain ⟨W, hW, M⟩ := open2 w (fcells f) 33 (acells .u64 2 (fun _ => 0)) 35
  rw [hW]; clear hW
  go_wp2_with (first
    | (refine wpList_load_part rfl 33 _ rfl w.heap.size 0 rfl (fcells f) _ (M.at 0 rfl).whole Tryd.underlying33 rfl (by rw [fcells_size]; exact sizeFd) ?_)
    | (go_at_call 71; refine (checkPlace_any f hf hok c hc0.1 hc0.2 A _ (S.out.later M.below).two).mono ?_; rintro e W2 ⟨rfl, hb⟩; rw [HE.out]; have M2 := Lib.hid (M.call hb); clear hb)
    | (refine wpList_build1 rfl 110 _ rfl (errVal a) rfl _ (bNoPlace a _) ?_))
  exact ⟨rfl, rfl, M2.out.below⟩
theorem isRefP (v : Value) (xT : TypeId) (w : World) : (Instr.typeAssert (.iface 110 v) xT 89 true).run Tryd.prog w = .ok (.tuple #[.iface 110 v, .bool true]) w := run_typeAssert_hasB Tryd.underlying89 (by kernel_rfl) v xT w
theorem isRefNil (xT : TypeId) (w : World) : (Instr.typeAssert .nilIface xT 89 true).run Tryd.prog w = .ok (.tuple #[.nilIface, .bool false]) w := by kernel_rfl
theorem methReasonP (v : Value) (w : World) : (Go.method 287 110 v "loop.example/g01338/impl.reason").run Tryd.prog w = .ok (119, v) w := by kernel_rfl
set_option maxRecDepth 100000 in
theorem reasonP_any (a : Addr) (w : World) : Calls Tryd.prog 119 #[.agg #[errVal a]] w fun e w' => e = .returned (errVal a) ∧ Below w.heap.size w w' := by
  unfold errVal
  go_enter Tryd.func119, Tryd.ntmps119
  go_wp2
  go_ret
  exact ⟨rfl, (Below.refl _ _).alloc (Nat.le_refl _) _⟩
theorem catch_idleC (a b : Addr) (w : World) :
    CallsD Tryd.prog 51 #[.pointer (some a), .pointer (some b)] .returning w fun e u' w' => e = .returned (.tuple #[]) ∧ u' = .returning ∧ w' = w := by
  have n1 := isRefNil
  refine callsD_of_wpS Tryd.func51 rfl fun c₀ cs hu => ?_
  simp only [Tryd.ntmps51, List.size_toArray, List.length_cons, List.length_nil, Nat.reduceAdd, Nat.reduceSub, Array.replicate_succ, Array.replicate_zero, List.push_toArray, List.append_toArray, List.nil_append, List.cons_append]
  apply wpS_seq
  apply wpS_region
  simp [wpOpsS, go_sem, recoverD, hu, Exit.thenS, n1]
  apply wpS_seq
  apply wpS_region
  simp [wpOpsS, go_sem, Exit.thenS]
  refine wpS_cond (t := false) (by simp [Act.eval]) ?_
  simp only [Bool.false_eq_true, if_false]
  refine wpS_of_wp (wp_skip ?_)
  cases c₀
  simp_all [bodyPostS, results, Tryd.results51]
theorem bZeroC (w : World) : (Instr.build 35 #[]).run Tryd.prog w = .ok (.agg (acells .u64 2 (fun _ => 0))) w := by kernel_rfl
set_option maxRecDepth 100000 in
set_option maxHeartbeats 4000000 in
theorem catch_panickingC (L : List Ent) (i j b1 b2 : Nat) (g : Nat → Int) (v2 : Value) (w0 w : World) (a : Addr) (M : Mem w0 w L) (h1 : L[i]? = some ⟨b1, acells .u64 2 g, 35⟩) (h2 : L[j]? = some ⟨b2, #[v2], 61⟩) (hij : i ≠ j) :
    CallsD Tryd.prog 51 #[.pointer (some ⟨b1, 0, none⟩), .pointer (some ⟨b2, 0, none⟩)] (.panicking [{ v := plcErr a, recovered := false }]) w fun e u' w' =>
      e = .returned (.tuple #[]) ∧ u' = .panicking [{ v := plcErr a, recovered := true }] ∧ Mem w0 w' ((L.set i ⟨b1, acells .u64 2 (fun _ => 0), 35⟩).set j ⟨b2, #[errVal a], 61⟩) := by
  have n1 := isRefP (.agg #[errVal a])
  have n2 := methReasonP
  have HM := Lib.hid M
  have H1 := Lib.hid h1
  have H2 := Lib.hid h2
  clear M h1 h2
  refine callsD_of_wpS Tryd.func51 rfl fun c₀ cs hu => ?_
  simp only [Tryd.ntmps51, List.size_toArray, List.length_cons, List.length_nil, Nat.reduceAdd, Nat.reduceSub, Array.replicate_succ, Array.replicate_zero, List.push_toArray, List.append_toArray, List.nil_append, List.cons_append]
  apply wpS_seq
  apply wpS_region
  simp [wpOpsS, go_sem, recoverD, hu, Exit.thenS, plcErr, n1]
  apply wpS_seq
  apply wpS_region
  simp [wpOpsS, go_sem, Exit.thenS]
  refine wpS_cond (t := true) (by simp [Act.eval]) ?_
  simp only [if_true]
  refine wpS_of_wp ?_
  clear n1
  go_wp2_with (first
    | (refine wpList_build0 rfl 35 rfl (.agg (acells .u64 2 (fun _ => 0))) (bZeroC _) ?_)
    | (go_at_call 119; refine (reasonP_any a _).mono ?_; rintro e W2 ⟨rfl, hb⟩; have M2 := Lib.hid (HM.out.call hb); clear hb)
    | (refine wpList_store_row rfl 35 _ _ rfl b1 (acells .u64 2 (fun _ => 0)) rfl rfl 35 _ (M2.out.at i H1.out) (by rw [acells_size]; exact sizeC) (by rw [acells_size, acells_size]) (acells_one _ _ _) ?_; have M3 := M2.out.row i H1.out (acells .u64 2 (fun _ => 0)); have hj := (List.getElem?_set_ne (l := L) (a := (⟨b1, acells .u64 2 (fun _ => 0), 35⟩ : Ent)) hij).trans H2.out; have d0 := (M3.at j hj).cell (i := 0) (v := v2) rfl; have e0 := (M3.at j hj).free 0))
  have M4 := M3.set j 0 (errVal a) hj #[errVal a] rfl
  exact ⟨rfl, _, rfl, .tuple #[], by simp [results, Tryd.results51, go_sem], rfl, rfl, M4⟩
end Go.Proofs.YteclngooblafoaaDoor
