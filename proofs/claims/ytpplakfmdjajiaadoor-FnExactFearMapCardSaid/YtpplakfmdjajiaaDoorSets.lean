/-
  Sets of cells as two words: copies, comparisons, membership.
-/
import Derived.Test.YtpplakfmdjajiaaDoorBase
import Derived.Deep.DeepCutAuto
import Derived.Test.YtpplakfmdjajiaaDoorSpec0
namespace Go.Proofs.YtpplakfmdjajiaaDoor
open Go Go.RowKit

theorem zeroC : (#[.int .u64 0, .int .u64 0] : Array Value) = acells .u64 2 (fun _ => 0) := by rfl
theorem sizeA : (Tryd.prog.info? 48).map (·.size) = some 2 := by kernel_rfl
theorem sizeC : (Tryd.prog.info? 49).map (·.size) = some 2 := by kernel_rfl
set_option maxHeartbeats 400000 in
theorem toCells (f : Nat → Int) (w : World) : Calls Tryd.prog 40 #[.agg (acells .u64 2 f)] w fun e w' => e = .returned (.agg (acells .u64 2 f)) ∧ Below w.heap.size w w' := by
  go_enter Tryd.func40, Tryd.ntmps40
  go_wp2_with fail
  rw [zeroC]
  obtain ⟨W, hW⟩ : ∃ W, ((w.alloc (Obj.cells (acells .u64 2 f) 48)).alloc (Obj.cells (acells .u64 2 (fun _ => 0)) 49)).alloc (Obj.cells (acells .u64 2 (fun _ => 0)) 49) = W := ⟨_, rfl⟩
  have hb : Below w.heap.size w W := by subst hW; exact (((Below.refl _ _).alloc (Nat.le_refl _) _).alloc (by simp) _).alloc (by simp; omega) _
  have h1 : Blk W w.heap.size (acells .u64 2 f) 48 := by subst hW; exact ((Blk.new _ _ _).alloc _).alloc _
  have h2 : Blk W (w.heap.size + 1) (acells .u64 2 (fun _ => 0)) 49 := by subst hW; have := (Blk.new (w.alloc (Obj.cells (acells .u64 2 f) 48)) (acells .u64 2 (fun _ => 0)) 49).alloc (Obj.cells (acells .u64 2 (fun _ => 0)) 49); rwa [World.size_alloc] at this
  have h3 : Blk W (w.heap.size + 1 + 1) (acells .u64 2 (fun _ => 0)) 49 := by subst hW; have := Blk.new ((w.alloc (Obj.cells (acells .u64 2 f) 48)).alloc (Obj.cells (acells .u64 2 (fun _ => 0)) 49)) (acells .u64 2 (fun _ => 0)) 49; rwa [World.size_alloc, World.size_alloc] at this
  rw [hW]; clear hW
  go_loopw [4] (fun i wr => ∃ k : Nat, k ≤ 2 ∧ i = .int .i64 k ∧ Below w.heap.size w wr ∧ Blk wr w.heap.size (acells .u64 2 f) 48 ∧ Blk wr (w.heap.size + 1) (acells .u64 2 (fun _ => 0)) 49 ∧ Blk wr (w.heap.size + 1 + 1) (acells .u64 2 (fun j => if j < k then f j else 0)) 49) (fun i _ => 2 - (intOf i).toNat)
  case atStart => exact ⟨0, by omega, rfl, hb, h1, h2, by simpa using h3⟩
  case round =>
    clear hb h1 h2 h3
    obtain ⟨k, hk, rfl, hb, h1, h2, h3⟩ := hrel
    by_cases hlt : k < 2
    · have c1 := h1.cell (acells_get _ _ _ k hlt)
      have c3 := h3.cell (acells_get _ _ _ k hlt)
      have f3 := h3.free k
      go_wp2_with fail
      go_roundw
      case rel =>
        refine ⟨k + 1, by omega, by go_num, hb.setCell (by simp; omega) _, h1.setOther _ (by simp; omega), h2.setOther _ (by simp), ?_⟩
        have h4 := h3.set k (.int .u64 (f k))
        rw [acells_set _ _ _ _ _ hlt] at h4
        refine Eq.trans h4 ?_
        rw [acells_congr (fun i _ => ?_)]
        by_cases e : i = k
        · subst e; simp
        · by_cases e2 : i < k
          · simp [e, e2, Nat.lt_succ_of_lt e2]
          · simp [e, e2]; omega
      case measure => simp [intOf]; omega
    · have hge : 2 ≤ k := by omega
      have e3 : acells .u64 2 (fun j => if j < k then f j else 0) = acells .u64 2 f := acells_congr (fun i hi => by rw [if_pos (by omega)])
      rw [e3] at h3; clear e3
      go_wp2_with (first | (refine wpList_load_row rfl 49 _ rfl (w.heap.size + 1 + 1) rfl 49 _ (0, 0) _ h3 Tryd.underlying49 rfl (by rw [acells_size]; exact sizeC) ?_) | (refine wpList_store_row rfl 49 _ _ rfl (w.heap.size + 1) (acells .u64 2 f) rfl rfl 49 _ h2 (by rw [acells_size]; exact sizeC) (by rw [acells_size, acells_size]) (acells_one _ _ _) ?_))
      exact bodyPost_ret (results_cell_row rfl _ _ (w.heap.size + 1) 49 _ _ _ rfl (h2.row _) Tryd.underlying49 rfl (by rw [acells_size]; exact sizeC)) rfl ⟨rfl, below_row hb (by omega) _⟩
set_option maxHeartbeats 400000 in
theorem eqCells (f : Nat → Int) (w : World) : Calls Tryd.prog 31 #[.agg (acells .u64 2 f), .agg (acells .u64 2 f)] w fun e w' => e = .returned (.bool true) ∧ Below w.heap.size w w' := by
  go_enter Tryd.func31, Tryd.ntmps31
  go_wp2_with fail
  obtain ⟨W, hW⟩ : ∃ W, (w.alloc (Obj.cells (acells .u64 2 f) 49)).alloc (Obj.cells (acells .u64 2 f) 49) = W := ⟨_, rfl⟩
  have hb : Below w.heap.size w W := by subst hW; exact ((Below.refl _ _).alloc (Nat.le_refl _) _).alloc (by simp) _
  have h1 : Blk W w.heap.size (acells .u64 2 f) 49 := by subst hW; exact (Blk.new _ _ _).alloc _
  have h2 : Blk W (w.heap.size + 1) (acells .u64 2 f) 49 := by subst hW; have := Blk.new (w.alloc (Obj.cells (acells .u64 2 f) 49)) (acells .u64 2 f) 49; rwa [World.size_alloc] at this
  rw [hW]; clear hW
  go_loopw [5] (fun i wr => ∃ k : Nat, k ≤ 2 ∧ i = .int .i64 k ∧ Below w.heap.size w wr ∧ Blk wr w.heap.size (acells .u64 2 f) 49 ∧ Blk wr (w.heap.size + 1) (acells .u64 2 f) 49) (fun i _ => 2 - (intOf i).toNat)
  case atStart => exact ⟨0, by omega, rfl, hb, h1, h2⟩
  case round =>
    clear hb h1 h2
    obtain ⟨k, hk, rfl, hb, h1, h2⟩ := hrel
    by_cases hlt : k < 2
    · have c1 := h1.cell (acells_get _ _ _ k hlt)
      have c2 := h2.cell (acells_get _ _ _ k hlt)
      go_wp2_with fail
      go_quiet (fail)
      go_wp2_with fail
      go_roundw
      case rel => exact ⟨k + 1, by omega, by go_num, below_drewN _ hb, h1.drewN _, h2.drewN _⟩
      case measure => simp [intOf]; omega
    · have hge : 2 ≤ k := by omega
      go_wp2_with fail
      go_ret
      exact ⟨rfl, hb⟩


/-- Is the number in the set of the two words f 0, f 1? -/
def hasC (f : Nat → Int) (c : Int) : Bool := inB c 0 99 && (bits BinOp.and IntKind.u64 ((if c < 64 then f 0 else f 1) / 2 ^ (c % 64).toNat) 1 == 1)
set_option maxRecDepth 100000 in
theorem l01Has_any (f : Nat → Int) (c : Int) (b : Nat) (w : World) (B : Blk w b (acells .u64 2 f) 49) :
    Calls Tryd.prog 110 #[.pointer (some ⟨b, 0, none⟩), .int .i64 c] w fun e w' => e = .returned (.bool (hasC f c)) ∧ w = w' := by
  have c0 := B.cell (acells_get _ _ _ 0 (by omega))
  have c1 := B.cell (acells_get _ _ _ 1 (by omega))
  cases h : inB c 0 99 with
  | false =>
    have hr : hasC f c = false := by simp [hasC, h]
    rw [hr]; clear hr
    go_enter Tryd.func110, Tryd.ntmps110
    go_wp2_with (go_at_call 53; refine (l00In_any _ _ _ _).mono ?_; rintro e w' ⟨rfl, rfl⟩)
    go_ret
    exact ⟨rfl, rfl⟩
  | true =>
    obtain ⟨h1, h2⟩ := inB_iff.1 h
    by_cases h3 : c < 64
    · have hr : hasC f c = (bits BinOp.and IntKind.u64 (f 0 / 2 ^ (c % 64).toNat) 1 == 1) := by simp [hasC, h, h3]
      rw [hr]; clear hr
      have e0 : c / 64 = 0 := by omega
      go_enter Tryd.func110, Tryd.ntmps110
      go_wp2_with (go_at_call 53; refine (l00In_any _ _ _ _).mono ?_; rintro e w' ⟨rfl, rfl⟩)
      go_ret
      exact ⟨rfl, rfl⟩
    · have hr : hasC f c = (bits BinOp.and IntKind.u64 (f 1 / 2 ^ (c % 64).toNat) 1 == 1) := by simp [hasC, h, h3]
      rw [hr]; clear hr
      have e0 : c / 64 = 1 := by omega
      go_enter Tryd.func110, Tryd.ntmps110
      go_wp2_with (go_at_call 53; refine (l00In_any _ _ _ _).mono ?_; rintro e w' ⟨rfl, rfl⟩)
      go_ret
      exact ⟨rfl, rfl⟩

theorem isNumber_any (n : Int) (w : World) : Calls Tryd.prog 127 #[.int .i64 n] w fun e w' => e = .returned (.bool (inB n 0 99)) ∧ w = w' := by
  by_cases h1 : 0 ≤ n
  · by_cases h2 : n ≤ 99
    · rw [inB_iff.2 ⟨h1, h2⟩]
      have h3 : n < 100 := by omega
      go_enter Tryd.func127, Tryd.ntmps127
      go_wp2_with fail
      go_ret
      exact ⟨rfl, rfl⟩
    · rw [inB_false (.inr (by omega))]
      have h3 : ¬ n < 100 := by omega
      go_enter Tryd.func127, Tryd.ntmps127
      go_wp2_with fail
      go_ret
      exact ⟨rfl, rfl⟩
  · rw [inB_false (.inl (by omega))]
    go_enter Tryd.func127, Tryd.ntmps127
    go_wp2_with fail
    go_ret
    exact ⟨rfl, rfl⟩
set_option maxRecDepth 100000 in
theorem hasCell_any (f : Nat → Int) (c : Int) (w : World) : Calls Tryd.prog 101 #[.agg (acells .u64 2 f), .int .i64 c] w fun e w' => e = .returned (.bool (hasC f c)) ∧ Below w.heap.size w w' := by
  have c0 := acells_get .u64 2 f 0 (by omega)
  have c1 := acells_get .u64 2 f 1 (by omega)
  cases h : inB c 0 99 with
  | false =>
    have hr : hasC f c = false := by simp [hasC, h]
    rw [hr]; clear hr
    go_enter Tryd.func101, Tryd.ntmps101
    go_wp2_with (go_at_call 127; refine (isNumber_any _ _).mono ?_; rintro e w' ⟨rfl, rfl⟩)
    go_ret
    exact ⟨rfl, (Below.refl _ _).alloc (Nat.le_refl _) _⟩
  | true =>
    obtain ⟨h1, h2⟩ := inB_iff.1 h
    by_cases h3 : c < 64
    · have hr : hasC f c = (bits BinOp.and IntKind.u64 (f 0 / 2 ^ (c % 64).toNat) 1 == 1) := by simp [hasC, h, h3]
      rw [hr]; clear hr
      have e0 : c / 64 = 0 := by omega
      go_enter Tryd.func101, Tryd.ntmps101
      go_wp2_with (go_at_call 127; refine (isNumber_any _ _).mono ?_; rintro e w' ⟨rfl, rfl⟩)
      go_ret
      exact ⟨rfl, (Below.refl _ _).alloc (Nat.le_refl _) _⟩
    · have hr : hasC f c = (bits BinOp.and IntKind.u64 (f 1 / 2 ^ (c % 64).toNat) 1 == 1) := by simp [hasC, h, h3]
      rw [hr]; clear hr
      have e0 : c / 64 = 1 := by omega
      go_enter Tryd.func101, Tryd.ntmps101
      go_wp2_with (go_at_call 127; refine (isNumber_any _ _).mono ?_; rintro e w' ⟨rfl, rfl⟩)
      go_ret
      exact ⟨rfl, (Below.refl _ _).alloc (Nat.le_refl _) _⟩
end Go.Proofs.YtpplakfmdjajiaaDoor
