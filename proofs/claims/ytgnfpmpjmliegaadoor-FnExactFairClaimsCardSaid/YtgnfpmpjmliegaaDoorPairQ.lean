/-
  What panics where two fields are none, and how it is recovered.
-/
import Derived.Test.YtgnfpmpjmliegaaDoorPairO
namespace Go.Proofs.YtgnfpmpjmliegaaDoor
open Go Go.RowKit Go.Stop Go.Extern.Stop

set_option maxRecDepth 100000 in
set_option maxHeartbeats 4000000 in
theorem pairFrom_bad (f g : Fd) (hf : f.Wf) (hg : g.Wf) (hok : (okF f && okF g) = false) (A : Nat → Addr) (w : World) (S0 : Sents w A) : Calls Tryd.prog 36 #[.agg (fcells f), .agg (fcells g)] w fun e w' => e = .panicked [{ v := fieldErr (A 1), recovered := false }] ∧ Below w.heap.size w w' := by
  have S := Lib.hid S0
  clear S0
  have hif := isIfaceErr
  have hok' := Lib.hid hok
  clear hok
  go_enter Tryd.func36, Tryd.ntmps36
  go_upto_region 1 with (fail)
  obtain ⟨W, hW, M⟩ := open3 w (fcells f) 32 (fcells g) 32 Tryd.zeroCells59 59
  rw [hW]; clear hW
  have ok1 : True := trivial
  have ok2 : True := trivial
  go_wp2_with (first
    | (clear ok1; (refine wpList_load_part rfl 32 _ rfl w.heap.size 0 rfl (fcells f) _ (M.at 0 rfl).whole Tryd.underlying32 rfl (by rw [fcells_size]; exact sizeFd) ?_))
    | (clear ok2; (refine wpList_load_part rfl 32 _ rfl (w.heap.size + 1) 0 rfl (fcells g) _ (M.at 1 rfl).whole Tryd.underlying32 rfl (by rw [fcells_size]; exact sizeFd) ?_))
    | (refine wpList_buildTwo rfl 106 32 _ _ rfl (fcells f) (fcells g) rfl rfl (by rw [fcells_size, fcells_size]) Tryd.underlying106 (by rw [fcells_size]; exact sizeFd) (by rw [fcells_size]; kernel_rfl) (by rw [fcells_size]; omega) (by rw [fcells_size]; omega) ?_)
    | (go_at_call 48; refine (checkFields2 f g hf hg A _ _ _ (Blk.new _ (pcells f g) _) (S.out.later (M.alloc _ _).below).one).mono ?_; rintro e W2 ⟨rfl, hb⟩; rw [hok'.out, errIf_false]; have M2 := Lib.hid ((M.alloc _ _).call hb); clear hb)
    | (refine wpList_build1 rfl 93 _ rfl (errVal (A 1)) rfl _ (bNoField (A 1) _) ?_))
  exact ⟨rfl, rfl, M2.out.below⟩

theorem isRefF (v : Value) (xT : TypeId) (w : World) : (Instr.typeAssert (.iface 93 v) xT 71 true).run Tryd.prog w = .ok (.tuple #[.iface 93 v, .bool true]) w := run_typeAssert_hasB Tryd.underlying71 (by kernel_rfl) v xT w
theorem isRefNil (xT : TypeId) (w : World) : (Instr.typeAssert .nilIface xT 71 true).run Tryd.prog w = .ok (.tuple #[.nilIface, .bool false]) w := by kernel_rfl
theorem methReasonF (v : Value) (w : World) : (Go.method 249 93 v "loop.example/g01338/impl.reason").run Tryd.prog w = .ok (83, v) w := by kernel_rfl
set_option maxRecDepth 100000 in
theorem reasonF_any (a : Addr) (w : World) : Calls Tryd.prog 83 #[.agg #[errVal a]] w fun e w' => e = .returned (fieldErr a) ∧ Below w.heap.size w w' := by
  unfold fieldErr errVal
  go_enter Tryd.func83, Tryd.ntmps83
  go_wp2
  go_ret
  exact ⟨rfl, (Below.refl _ _).alloc (Nat.le_refl _) _⟩

theorem catch_idle (a b : Addr) (w : World) :
    CallsD Tryd.prog 35 #[.pointer (some a), .pointer (some b)] .returning w fun e u' w' => e = .returned (.tuple #[]) ∧ u' = .returning ∧ w' = w := by
  have n1 := isRefNil
  refine callsD_of_wpS Tryd.func35 rfl fun c₀ cs hu => ?_
  simp only [Tryd.ntmps35, List.size_toArray, List.length_cons, List.length_nil, Nat.reduceAdd, Nat.reduceSub, Array.replicate_succ, Array.replicate_zero, List.push_toArray, List.append_toArray, List.nil_append, List.cons_append]
  apply wpS_seq
  apply wpS_region
  simp [wpOpsS, go_sem, recoverD, hu, Exit.thenS, n1]
  apply wpS_seq
  apply wpS_region
  simp [wpOpsS, go_sem, Exit.thenS]
  refine wpS_cond (t := false) (by simp [Act.eval]) ?_
  simp only [Bool.false_eq_true, if_false]
  refine wpS_of_wp (wp_skip ?_)
  cases c₀
  simp_all [bodyPostS, results, Tryd.results35]

theorem bZeroP (w : World) : (Instr.build 59 #[]).run Tryd.prog w = .ok (.agg Tryd.zeroCells59) w := by kernel_rfl
set_option maxRecDepth 100000 in
set_option maxHeartbeats 4000000 in
theorem catch_panicking (L : List Ent) (i j b1 b2 : Nat) (c1 : Array Value) (v2 : Value) (hs1 : c1.size = 404) (w0 w : World) (a : Addr) (M : Mem w0 w L) (h1 : L[i]? = some ⟨b1, c1, 59⟩) (h2 : L[j]? = some ⟨b2, #[v2], 48⟩) (hij : i ≠ j) :
    CallsD Tryd.prog 35 #[.pointer (some ⟨b1, 0, none⟩), .pointer (some ⟨b2, 0, none⟩)] (.panicking [{ v := fieldErr a, recovered := false }]) w fun e u' w' =>
      e = .returned (.tuple #[]) ∧ u' = .panicking [{ v := fieldErr a, recovered := true }] ∧ Mem w0 w' ((L.set i ⟨b1, pcells Fd.zero Fd.zero, 59⟩).set j ⟨b2, #[fieldErr a], 48⟩) := by
  have n1 := isRefF (.agg #[errVal a])
  have n2 := methReasonF
  have HM := Lib.hid M
  have H1 := Lib.hid h1
  have H2 := Lib.hid h2
  have HS := Lib.hid hs1
  clear M h1 h2 hs1
  refine callsD_of_wpS Tryd.func35 rfl fun c₀ cs hu => ?_
  simp only [Tryd.ntmps35, List.size_toArray, List.length_cons, List.length_nil, Nat.reduceAdd, Nat.reduceSub, Array.replicate_succ, Array.replicate_zero, List.push_toArray, List.append_toArray, List.nil_append, List.cons_append]
  apply wpS_seq
  apply wpS_region
  simp [wpOpsS, go_sem, recoverD, hu, Exit.thenS, n1]
  apply wpS_seq
  apply wpS_region
  simp [wpOpsS, go_sem, Exit.thenS]
  refine wpS_cond (t := true) (by simp [Act.eval]) ?_
  simp only [if_true]
  refine wpS_of_wp ?_
  have hzp : Hid (Tryd.zeroCells59.size = 404) := Lib.hid (by rw [zeroP, pcells_size])
  clear n1
  go_wp2_with (first
    | (refine wpList_build0 rfl 59 rfl (.agg Tryd.zeroCells59) (bZeroP _) ?_)
    | (go_at_call 83; refine (reasonF_any a _).mono ?_; rintro e W2 ⟨rfl, hb⟩; have M2 := Lib.hid (HM.out.call hb); clear hb)
    | (refine wpList_store_row rfl 59 _ _ rfl b1 Tryd.zeroCells59 rfl rfl 59 _ (M2.out.at i H1.out) (by rw [hzp.out]; exact sizeP) (by rw [hzp.out, HS.out]) (by rw [zeroP]; exact pcells_one _ _) ?_; have M3 := M2.out.row i H1.out Tryd.zeroCells59; have hj := (List.getElem?_set_ne (l := L) (a := (⟨b1, Tryd.zeroCells59, 59⟩ : Ent)) hij).trans H2.out; have d0 := (M3.at j hj).cell (i := 0) (v := v2) rfl; have e0 := (M3.at j hj).free 0))
  have M4 := M3.set j 0 (fieldErr a) hj #[fieldErr a] rfl
  exact ⟨rfl, _, rfl, .tuple #[], by simp [results, Tryd.results35, go_sem], rfl, rfl, by rw [← zeroP]; exact M4⟩
end Go.Proofs.YtgnfpmpjmliegaaDoor
