/-
  A pair of fields as one row of cells; its methods on single cells.
-/
import Derived.Test.YtgnfpmpjmliegaaDoorPair
import Derived.Test.YtgnfpmpjmliegaaDoorIter
import Derived.Test.YtgnfpmpjmliegaaDoorPut
namespace Go.Proofs.YtgnfpmpjmliegaaDoor
open Go Go.RowKit Go.Shelf
attribute [local go_sem] Oper.semAt_some

def pcells (f g : Fd) : Array Value := fcells f ++ fcells g
theorem pcells_size (f g : Fd) : (pcells f g).size = 404 := by simp [pcells, fcells_size]
theorem pcells_L (f g : Fd) (i : Nat) (h : i < 202) : (pcells f g)[i]? = (fcells f)[i]? := by
  unfold pcells; rw [Array.getElem?_append, if_pos (by rw [fcells_size]; exact h)]
theorem pcells_R (f g : Fd) (i : Nat) : (pcells f g)[202 + i]? = (fcells g)[i]? := by
  unfold pcells; rw [Array.getElem?_append, if_neg (by rw [fcells_size]; omega), fcells_size, Nat.add_sub_cancel_left]
theorem pcells_one (f g : Fd) : (pcells f g).all (·.oneCell') = true := by
  unfold pcells; rw [Array.all_append, fcells_one, fcells_one]; rfl
theorem Blk.early {w : World} {b : Nat} {f g : Fd} {t : TypeId} (h : Blk w b (pcells f g) t) : w.rangeAt b 0 (fcells f).toList :=
  h.range 0 (fun j hj => by rw [Nat.zero_add]; exact pcells_L f g j (by rw [fcells_size] at hj; exact hj))
theorem Blk.late {w : World} {b : Nat} {f g : Fd} {t : TypeId} (h : Blk w b (pcells f g) t) : w.rangeAt b 202 (fcells g).toList :=
  h.range 202 (fun j _ => pcells_R f g j)
theorem Blk.lateSeeds {w : World} {b : Nat} {f g : Fd} {t : TypeId} (h : Blk w b (pcells f g) t) : w.rangeAt b 304 (acells .i16 100 g.S).toList :=
  h.range 304 (fun j hj => by
    rw [acells_size] at hj
    rw [show 304 + j = 202 + (102 + j) by omega, pcells_R, fcells_S g j hj, acells_get _ _ _ _ hj])
theorem sizeP : (Tryd.prog.info? 59).map (·.size) = some 404 := by kernel_rfl
theorem sizeEa : (Tryd.prog.info? 56).map (·.size) = some 202 := by kernel_rfl
theorem sizeLa : (Tryd.prog.info? 57).map (·.size) = some 202 := by kernel_rfl

set_option maxRecDepth 100000 in
set_option maxHeartbeats 2000000 in
theorem had_any (f : Fd) (k : Nat) (hk : k < 100) (hS : -32768 ≤ f.S k ∧ f.S k ≤ 32767) (w : World) : Calls Tryd.prog 52 #[.agg (fcells f), .int .i64 k] w fun e w' => e = .returned (.int .i64 (f.S k)) ∧ Below w.heap.size w w' := by
  obtain ⟨h1, h2⟩ := hS
  have hk1 : (k : Int) < 100 := by omega
  go_enter Tryd.func52, Tryd.ntmps52
  go_upto_region 1 with (fail)
  obtain ⟨W, hW, M⟩ := open1 w (fcells f) 56
  rw [hW]; clear hW
  have c0 := (M.at 0 rfl).cell (fcells_S f k hk)
  go_wp2_with fail
  go_ret
  exact ⟨rfl, M.below⟩
set_option maxRecDepth 100000 in
set_option maxHeartbeats 2000000 in
theorem has_any (f : Fd) (k : Nat) (hk : k < 100) (hS : -32768 ≤ f.S k ∧ f.S k ≤ 32767) (w : World) : Calls Tryd.prog 53 #[.agg (fcells f), .int .i64 k] w fun e w' => e = .returned (.int .i64 (f.S k)) ∧ Below w.heap.size w w' := by
  obtain ⟨h1, h2⟩ := hS
  have hk1 : (k : Int) < 100 := by omega
  go_enter Tryd.func53, Tryd.ntmps53
  go_upto_region 1 with (fail)
  obtain ⟨W, hW, M⟩ := open1 w (fcells f) 57
  rw [hW]; clear hW
  have c0 := (M.at 0 rfl).cell (fcells_S f k hk)
  go_wp2_with fail
  go_ret
  exact ⟨rfl, M.below⟩
set_option maxRecDepth 100000 in
set_option maxHeartbeats 4000000 in
theorem loss_any (f g : Fd) (hf : f.Wf) (hg : g.Wf) (k : Nat) (hk : k < 100) (w : World) : Calls Tryd.prog 42 #[.agg (pcells f g), .int .i64 k] w fun e w' => e = .returned (.int .i64 (lossN f g k)) ∧ Below w.heap.size w w' := by
  have HSf := Lib.hid hf.S
  have HSg := Lib.hid hg.S
  have hw1 : IntKind.i64.wrap (f.S k - g.S k) = lossN f g k := by have := hf.S k hk; have := hg.S k hk; unfold lossN; exact IntWalk.i64_in _ (by omega)
  go_enter Tryd.func42, Tryd.ntmps42
  go_upto_region 1 with (fail)
  obtain ⟨W, hW, M⟩ := open1 w (pcells f g) 59
  rw [hW]; clear hW
  refine wp_region_rel (DL [dV (.pointer (some ⟨w.heap.size, 0, none⟩)), dV (.agg (fcells f)), dV (.int .i64 k), dV (.int .i64 (f.S k)), dV (.pointer (some ⟨w.heap.size, 202, none⟩)), dV (.agg (fcells g)), dV (.int .i64 k), dV (.int .i64 (g.S k)), dV (.int .i64 (lossN f g k)), dV (.int .i64 (lossN f g k))]) (fun w' => Mem w w' [⟨w.heap.size, pcells f g, 59⟩]) (by kernel_rfl) (by kernel_rfl) grows_mem
    (stays_DL (fun d hd => by
      simp only [List.mem_cons, List.mem_nil_iff, or_false] at hd
      rcases hd with rfl | rfl | rfl | rfl | rfl | rfl | rfl | rfl | rfl | rfl <;> exact stay_V)) M.drew ?_
  refine rel_val (.pointer (some ⟨w.heap.size, 0, none⟩)) rfl rfl (fun _ _ => rfl) (fun _ => ?_)
  simp only [Act.put, List.setIfInBounds_toArray, List.set_cons_zero, List.set_cons_succ]
  refine rel_load 56 _ rfl w.heap.size 0 rfl (fcells f) _ rfl rfl (fun w' hw' => (hw'.at 0 rfl).early) Tryd.underlying56 rfl (by rw [fcells_size]; exact sizeEa) (fun _ => ?_)
  simp only [Act.put, List.setIfInBounds_toArray, List.set_cons_zero, List.set_cons_succ]
  refine rel_val _ rfl rfl (fun _ _ => rfl) (fun _ => ?_)
  simp only [Act.put, List.setIfInBounds_toArray, List.set_cons_zero, List.set_cons_succ]
  refine rel_call (.int .i64 (f.S k)) 52 #[.agg (fcells f), .int .i64 k] rfl rfl rfl rfl (enters_of Tryd.func52 (by kernel_rfl) rfl) (fun w' _ => had_any f k hk (HSf.out k hk) w') (fun _ => ?_)
  simp only [Act.put, List.setIfInBounds_toArray, List.set_cons_zero, List.set_cons_succ]
  refine rel_val (.pointer (some ⟨w.heap.size, 202, none⟩)) rfl rfl (fun _ _ => rfl) (fun _ => ?_)
  simp only [Act.put, List.setIfInBounds_toArray, List.set_cons_zero, List.set_cons_succ]
  refine rel_load 57 _ rfl w.heap.size 202 rfl (fcells g) _ rfl rfl (fun w' hw' => (hw'.at 0 rfl).late) Tryd.underlying57 rfl (by rw [fcells_size]; exact sizeLa) (fun _ => ?_)
  simp only [Act.put, List.setIfInBounds_toArray, List.set_cons_zero, List.set_cons_succ]
  refine rel_val _ rfl rfl (fun _ _ => rfl) (fun _ => ?_)
  simp only [Act.put, List.setIfInBounds_toArray, List.set_cons_zero, List.set_cons_succ]
  refine rel_call (.int .i64 (g.S k)) 53 #[.agg (fcells g), .int .i64 k] rfl rfl rfl rfl (enters_of Tryd.func53 (by kernel_rfl) rfl) (fun w' _ => has_any g k hk (HSg.out k hk) w') (fun _ => ?_)
  simp only [Act.put, List.setIfInBounds_toArray, List.set_cons_zero, List.set_cons_succ]
  refine rel_val (.int .i64 (lossN f g k)) rfl rfl (fun w' _ => by simp [execOp, Act.eval, go_sem, hw1]) (fun _ => ?_)
  simp only [Act.put, List.setIfInBounds_toArray, List.set_cons_zero, List.set_cons_succ]
  refine rel_val _ rfl rfl (fun _ _ => rfl) (fun _ => ?_)
  simp only [Act.put, List.setIfInBounds_toArray, List.set_cons_zero, List.set_cons_succ]
  refine rel_nil (fun W1 inv => ?_)
  have M1 := inv.cls
  clear inv
  go_wp2_with fail
  go_ret
  exact ⟨rfl, M1.below⟩
def baredB (f g : Fd) (k : Nat) : Bool := decide (0 < f.S k) && (g.S k == 0)
set_option maxRecDepth 100000 in
set_option maxHeartbeats 4000000 in
theorem pairCells_any (f g : Fd) (w : World) : Calls Tryd.prog 40 #[.agg (pcells f g)] w fun e w' => e = .returned (.func (.func 57) #[] #[.pointer (some ⟨w.heap.size + 1, 0, none⟩)]) ∧ w' = (w.alloc (.cells (pcells f g) 59)).alloc (.cells (fcells f) 32) := by
  go_enter Tryd.func40, Tryd.ntmps40
  go_upto_region 1 with (fail)
  obtain ⟨W, hW, M⟩ := open1 w (pcells f g) 59
  have hz : W.heap.size = w.heap.size + 1 := by rw [← hW, World.size_alloc]
  rw [hW]
  go_wp2_with (first
    | (refine wpList_load_part rfl 32 _ rfl w.heap.size 0 rfl (fcells f) _ (M.at 0 rfl).early Tryd.underlying32 rfl (by rw [fcells_size]; exact sizeFd) ?_)
    | (go_at_call 49; refine (cellsIn_any f _).mono ?_; rintro e w' ⟨rfl, rfl⟩))
  go_ret
  exact ⟨rfl, by rw [← hW]⟩
end Go.Proofs.YtgnfpmpjmliegaaDoor
