/-
  Sets of cells as two words: copies, comparisons, membership.
-/
import Derived.Test.YtdjbaajcgipebaaDoorBase
import Derived.Deep.DeepCutAuto
import Derived.Test.YtdjbaajcgipebaaDoorSpec0
namespace Go.Proofs.YtdjbaajcgipebaaDoor
open Go Go.RowKit

theorem zeroC : (#[.int .u64 0, .int .u64 0] : Array Value) = acells .u64 2 (fun _ => 0) := by rfl
theorem sizeA : (Tryd.prog.info? 44).map (·.size) = some 2 := by kernel_rfl
theorem sizeC : (Tryd.prog.info? 45).map (·.size) = some 2 := by kernel_rfl
set_option maxHeartbeats 400000 in
theorem eqCells (f : Nat → Int) (w : World) : Calls Tryd.prog 26 #[.agg (acells .u64 2 f), .agg (acells .u64 2 f)] w fun e w' => e = .returned (.bool true) ∧ Below w.heap.size w w' := by
  go_enter Tryd.func26, Tryd.ntmps26
  go_wp2_with fail
  obtain ⟨W, hW⟩ : ∃ W, (w.alloc (Obj.cells (acells .u64 2 f) 45)).alloc (Obj.cells (acells .u64 2 f) 45) = W := ⟨_, rfl⟩
  have hb : Below w.heap.size w W := by subst hW; exact ((Below.refl _ _).alloc (Nat.le_refl _) _).alloc (by simp) _
  have h1 : Blk W w.heap.size (acells .u64 2 f) 45 := by subst hW; exact (Blk.new _ _ _).alloc _
  have h2 : Blk W (w.heap.size + 1) (acells .u64 2 f) 45 := by subst hW; have := Blk.new (w.alloc (Obj.cells (acells .u64 2 f) 45)) (acells .u64 2 f) 45; rwa [World.size_alloc] at this
  rw [hW]; clear hW
  go_loopw [5] (fun i wr => ∃ k : Nat, k ≤ 2 ∧ i = .int .i64 k ∧ Below w.heap.size w wr ∧ Blk wr w.heap.size (acells .u64 2 f) 45 ∧ Blk wr (w.heap.size + 1) (acells .u64 2 f) 45) (fun i _ => 2 - (intOf i).toNat)
  case atStart => exact ⟨0, by omega, rfl, hb, h1, h2⟩
  case round =>
    clear hb h1 h2
    obtain ⟨k, hk, rfl, hb, h1, h2⟩ := hrel
    by_cases hlt : k < 2
    · have c1 := h1.cell (acells_get _ _ _ k hlt)
      have c2 := h2.cell (acells_get _ _ _ k hlt)
      go_wp2_with fail
      go_quiet (fail)
      go_wp2_with fail
      go_roundw
      case rel => exact ⟨k + 1, by omega, by go_num, below_drewN _ hb, h1.drewN _, h2.drewN _⟩
      case measure => simp [intOf]; omega
    · have hge : 2 ≤ k := by omega
      go_wp2_with fail
      go_ret
      exact ⟨rfl, hb⟩


/-- Is the number in the set of the two words f 0, f 1? -/
def hasC (f : Nat → Int) (c : Int) : Bool := inB c 0 99 && (bits BinOp.and IntKind.u64 ((if c < 64 then f 0 else f 1) / 2 ^ (c % 64).toNat) 1 == 1)
theorem isNumber_any (n : Int) (w : World) : Calls Tryd.prog 80 #[.int .i64 n] w fun e w' => e = .returned (.bool (inB n 0 99)) ∧ w = w' := by
  by_cases h1 : 0 ≤ n
  · by_cases h2 : n ≤ 99
    · rw [inB_iff.2 ⟨h1, h2⟩]
      have h3 : n < 100 := by omega
      go_enter Tryd.func80, Tryd.ntmps80
      go_wp2_with fail
      go_ret
      exact ⟨rfl, rfl⟩
    · rw [inB_false (.inr (by omega))]
      have h3 : ¬ n < 100 := by omega
      go_enter Tryd.func80, Tryd.ntmps80
      go_wp2_with fail
      go_ret
      exact ⟨rfl, rfl⟩
  · rw [inB_false (.inl (by omega))]
    go_enter Tryd.func80, Tryd.ntmps80
    go_wp2_with fail
    go_ret
    exact ⟨rfl, rfl⟩
set_option maxRecDepth 100000 in
theorem hasCell_any (f : Nat → Int) (c : Int) (w : World) : Calls Tryd.prog 60 #[.agg (acells .u64 2 f), .int .i64 c] w fun e w' => e = .returned (.bool (hasC f c)) ∧ Below w.heap.size w w' := by
  have c0 := acells_get .u64 2 f 0 (by omega)
  have c1 := acells_get .u64 2 f 1 (by omega)
  cases h : inB c 0 99 with
  | false =>
    have hr : hasC f c = false := by simp [hasC, h]
    rw [hr]; clear hr
    go_enter Tryd.func60, Tryd.ntmps60
    go_wp2_with (go_at_call 80; refine (isNumber_any _ _).mono ?_; rintro e w' ⟨rfl, rfl⟩)
    go_ret
    exact ⟨rfl, (Below.refl _ _).alloc (Nat.le_refl _) _⟩
  | true =>
    obtain ⟨h1, h2⟩ := inB_iff.1 h
    by_cases h3 : c < 64
    · have hr : hasC f c = (bits BinOp.and IntKind.u64 (f 0 / 2 ^ (c % 64).toNat) 1 == 1) := by simp [hasC, h, h3]
      rw [hr]; clear hr
      have e0 : c / 64 = 0 := by omega
      go_enter Tryd.func60, Tryd.ntmps60
      go_wp2_with (go_at_call 80; refine (isNumber_any _ _).mono ?_; rintro e w' ⟨rfl, rfl⟩)
      go_ret
      exact ⟨rfl, (Below.refl _ _).alloc (Nat.le_refl _) _⟩
    · have hr : hasC f c = (bits BinOp.and IntKind.u64 (f 1 / 2 ^ (c % 64).toNat) 1 == 1) := by simp [hasC, h, h3]
      rw [hr]; clear hr
      have e0 : c / 64 = 1 := by omega
      go_enter Tryd.func60, Tryd.ntmps60
      go_wp2_with (go_at_call 80; refine (isNumber_any _ _).mono ?_; rintro e w' ⟨rfl, rfl⟩)
      go_ret
      exact ⟨rfl, (Below.refl _ _).alloc (Nat.le_refl _) _⟩
end Go.Proofs.YtdjbaajcgipebaaDoor
