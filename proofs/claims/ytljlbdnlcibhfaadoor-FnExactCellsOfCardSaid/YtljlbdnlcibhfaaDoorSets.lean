/-
  Sets of cells as two words: copies, comparisons, membership.
-/
import Derived.Test.YtljlbdnlcibhfaaDoorBase
import Derived.Deep.DeepCutAuto
import Derived.Test.YtljlbdnlcibhfaaDoorSpec0
namespace Go.Proofs.YtljlbdnlcibhfaaDoor
open Go Go.RowKit

theorem zeroC : (#[.int .u64 0, .int .u64 0] : Array Value) = acells .u64 2 (fun _ => 0) := by rfl
theorem sizeA : (Tryd.prog.info? 34).map (·.size) = some 2 := by kernel_rfl
theorem sizeC : (Tryd.prog.info? 35).map (·.size) = some 2 := by kernel_rfl
set_option maxHeartbeats 400000 in
theorem eqCells (f : Nat → Int) (w : World) : Calls Tryd.prog 15 #[.agg (acells .u64 2 f), .agg (acells .u64 2 f)] w fun e w' => e = .returned (.bool true) ∧ Below w.heap.size w w' := by
  go_enter Tryd.func15, Tryd.ntmps15
  go_wp2_with fail
  obtain ⟨W, hW⟩ : ∃ W, (w.alloc (Obj.cells (acells .u64 2 f) 35)).alloc (Obj.cells (acells .u64 2 f) 35) = W := ⟨_, rfl⟩
  have hb : Below w.heap.size w W := by subst hW; exact ((Below.refl _ _).alloc (Nat.le_refl _) _).alloc (by simp) _
  have h1 : Blk W w.heap.size (acells .u64 2 f) 35 := by subst hW; exact (Blk.new _ _ _).alloc _
  have h2 : Blk W (w.heap.size + 1) (acells .u64 2 f) 35 := by subst hW; have := Blk.new (w.alloc (Obj.cells (acells .u64 2 f) 35)) (acells .u64 2 f) 35; rwa [World.size_alloc] at this
  rw [hW]; clear hW
  go_loopw [5] (fun i wr => ∃ k : Nat, k ≤ 2 ∧ i = .int .i64 k ∧ Below w.heap.size w wr ∧ Blk wr w.heap.size (acells .u64 2 f) 35 ∧ Blk wr (w.heap.size + 1) (acells .u64 2 f) 35) (fun i _ => 2 - (intOf i).toNat)
  case atStart => exact ⟨0, by omega, rfl, hb, h1, h2⟩
  case round =>
    clear hb h1 h2
    obtain ⟨k, hk, rfl, hb, h1, h2⟩ := hrel
    by_cases hlt : k < 2
    · have c1 := h1.cell (acells_get _ _ _ k hlt)
      have c2 := h2.cell (acells_get _ _ _ k hlt)
      go_wp2_with fail
      go_quiet (fail)
      go_wp2_with fail
      go_roundw
      case rel => exact ⟨k + 1, by omega, by go_num, below_drewN _ hb, h1.drewN _, h2.drewN _⟩
      case measure => simp [intOf]; omega
    · have hge : 2 ≤ k := by omega
      go_wp2_with fail
      go_ret
      exact ⟨rfl, hb⟩


/-- Is the number in the set of the two words f 0, f 1? -/
def hasC (f : Nat → Int) (c : Int) : Bool := inB c 0 99 && (bits BinOp.and IntKind.u64 ((if c < 64 then f 0 else f 1) / 2 ^ (c % 64).toNat) 1 == 1)
theorem isNumber_any (n : Int) (w : World) : Calls Tryd.prog 44 #[.int .i64 n] w fun e w' => e = .returned (.bool (inB n 0 99)) ∧ w = w' := by
  by_cases h1 : 0 ≤ n
  · by_cases h2 : n ≤ 99
    · rw [inB_iff.2 ⟨h1, h2⟩]
      have h3 : n < 100 := by omega
      go_enter Tryd.func44, Tryd.ntmps44
      go_wp2_with fail
      go_ret
      exact ⟨rfl, rfl⟩
    · rw [inB_false (.inr (by omega))]
      have h3 : ¬ n < 100 := by omega
      go_enter Tryd.func44, Tryd.ntmps44
      go_wp2_with fail
      go_ret
      exact ⟨rfl, rfl⟩
  · rw [inB_false (.inl (by omega))]
    go_enter Tryd.func44, Tryd.ntmps44
    go_wp2_with fail
    go_ret
    exact ⟨rfl, rfl⟩
end Go.Proofs.YtljlbdnlcibhfaaDoor
