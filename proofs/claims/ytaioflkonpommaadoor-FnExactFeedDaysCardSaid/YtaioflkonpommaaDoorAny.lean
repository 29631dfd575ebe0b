/-
  Regions that draw their order, walked order by order.
-/
import Derived.Test.YtaioflkonpommaaDoorCoreC
import Derived.Test.YtaioflkonpommaaDoorCoreA
import Derived.BigRegion
namespace Go.Proofs.YtaioflkonpommaaDoor
open Go Go.RowKit

theorem load_errI7 (b off : Nat) (v : Value) (w : World) (c : w.cell? ⟨b, off, none⟩ = some v) : (Instr.loadAt 79 (.pointer (some ⟨b, off, none⟩))).run Tryd.prog w = .ok v w := by
  simp [go_sem, c]
theorem store_err7 (b : Nat) (x : Addr) (u : Value) (w : World) (c : w.cell? ⟨b, 0, none⟩ = some u) (fz : w.frozen? ⟨b, 0, none⟩ = false) : (Instr.storeAt 79 (.pointer (some ⟨b, 0, none⟩)) (errVal x)).run Tryd.prog w = .ok () (w.setCell ⟨b, 0, none⟩ (errVal x)) := by
  unfold errVal
  simp [go_sem, c, fz]
section
variable {P : Program} {ops : Array Oper} {Q : Exit → Act → World → Prop} {K : Act → World → Prop} {a : Act} {w w' : World} {i : Nat} {o : Oper}
/-- One operation of a region that draws its order, where all orders are walked one by one. -/
theorem any_val7 (v : Value) (d : Nat) (ho : ops[i]? = some o) (hd : o.dst = some d) (hg : o.guard = none) (hr : (execOp a.eval o).run P w = .ok (.value v) w') (h : K (a.put (some d) v) w') : wpOp P ops Q i K a w := by
  have hw : Region.wanted o (yielded ops a.tmps) = true := by simp [Region.wanted, hg]
  unfold wpOp
  rw [ho]
  simp only [hw, if_true]
  refine .inl ?_
  unfold Oper.wp
  rw [hr]
  rw [← hd] at h
  exact h
theorem any_skip7 (ho : ops[i]? = some o) (hg : o.guard = none) (hr : (execOp a.eval o).run P w = .ok .skip w') (h : K (a.put o.dst undef) w') : wpOp P ops Q i K a w := by
  have hw : Region.wanted o (yielded ops a.tmps) = true := by simp [Region.wanted, hg]
  unfold wpOp
  rw [ho]
  simp only [hw, if_true]
  refine .inl ?_
  unfold Oper.wp
  rw [hr]
  exact h
theorem exec_build07 {ev : Operand → Value} {t : TypeId} {v : Value} (ho : o.op = .build t #[]) (hr : (Instr.build t #[]).run P w = .ok v w) : (execOp ev o).run P w = .ok (.value v) w := by
  unfold execOp; simp only [ho, List.map_toArray, List.map_nil, Sem.run_bind, hr, Result.andThen_ok, Sem.run_pure]
theorem exec_load7 {ev : Operand → Value} {ty : TypeId} {x : Operand} {p v : Value} (ho : o.op = .load ty x) (hx : ev x = p) (hr : (Instr.loadAt ty p).run P w = .ok v w) : (execOp ev o).run P w = .ok (.value v) w := by
  unfold execOp; simp only [ho, hx, Sem.run_bind, hr, Result.andThen_ok, Sem.run_pure]
theorem exec_store7 {ev : Operand → Value} {ty : TypeId} {x y : Operand} {p v : Value} (ho : o.op = .store ty x y) (hx : ev x = p) (hy : ev y = v) (hr : (Instr.storeAt ty p v).run P w = .ok () w') : (execOp ev o).run P w = .ok .skip w' := by
  unfold execOp; simp only [ho, hx, hy, Sem.run_bind, hr, Result.andThen_ok, Sem.run_pure]
theorem one_of7 {j : Nat} {p : Nat → Prop} (h : p j) : ∀ i ∈ [j], p i := fun i hi => by
  have : i = j := by simpa using hi
  subst this; exact h
theorem two_of7 {j k : Nat} {p : Nat → Prop} (h : p j) (h2 : p k) : ∀ i ∈ [j, k], p i := fun i hi => by
  simp only [List.mem_cons, List.mem_nil_iff, or_false] at hi
  rcases hi with rfl | rfl
  · exact h
  · exact h2
end
end Go.Proofs.YtaioflkonpommaaDoor
