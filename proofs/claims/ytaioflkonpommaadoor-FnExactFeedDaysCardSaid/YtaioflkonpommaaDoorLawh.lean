/-
  The laws' own helpers: copies of rows and of a field, and comparisons of two.
-/
import Derived.Test.YtaioflkonpommaaDoorCoreA
import Derived.Deep.DeepCutAuto
namespace Go.Proofs.YtaioflkonpommaaDoor
open Go Go.RowKit

set_option maxHeartbeats 400000 in
theorem toByteA100 (f : Nat → Int) (w : World) : Calls Tryd.prog 42 #[.agg (acells .u8 100 f)] w fun e w' => e = .returned (.agg (acells .u8 100 f)) ∧ Below w.heap.size w w' := by
  go_enter Tryd.func42, Tryd.ntmps42
  go_wp2_with fail
  rw [zeroK]
  obtain ⟨W, hW⟩ : ∃ W, ((w.alloc (Obj.cells (acells .u8 100 f) 23)).alloc (Obj.cells (acells .u8 100 (fun _ => 0)) 23)).alloc (Obj.cells (acells .u8 100 (fun _ => 0)) 23) = W := ⟨_, rfl⟩
  have hb : Below w.heap.size w W := by subst hW; exact (((Below.refl _ _).alloc (Nat.le_refl _) _).alloc (by simp) _).alloc (by simp; omega) _
  have h1 : Blk W w.heap.size (acells .u8 100 f) 23 := by subst hW; exact ((Blk.new _ _ _).alloc _).alloc _
  have h2 : Blk W (w.heap.size + 1) (acells .u8 100 (fun _ => 0)) 23 := by subst hW; have := (Blk.new (w.alloc (Obj.cells (acells .u8 100 f) 23)) (acells .u8 100 (fun _ => 0)) 23).alloc (Obj.cells (acells .u8 100 (fun _ => 0)) 23); rwa [World.size_alloc] at this
  have h3 : Blk W (w.heap.size + 1 + 1) (acells .u8 100 (fun _ => 0)) 23 := by subst hW; have := Blk.new ((w.alloc (Obj.cells (acells .u8 100 f) 23)).alloc (Obj.cells (acells .u8 100 (fun _ => 0)) 23)) (acells .u8 100 (fun _ => 0)) 23; rwa [World.size_alloc, World.size_alloc] at this
  rw [hW]; clear hW
  go_loopw [4] (fun i wr => ∃ k : Nat, k ≤ 100 ∧ i = .int .i64 k ∧ Below w.heap.size w wr ∧ Blk wr w.heap.size (acells .u8 100 f) 23 ∧ Blk wr (w.heap.size + 1) (acells .u8 100 (fun _ => 0)) 23 ∧ Blk wr (w.heap.size + 1 + 1) (acells .u8 100 (fun j => if j < k then f j else 0)) 23) (fun i _ => 100 - (intOf i).toNat)
  case atStart => exact ⟨0, by omega, rfl, hb, h1, h2, by simpa using h3⟩
  case round =>
    clear hb h1 h2 h3
    obtain ⟨k, hk, rfl, hb, h1, h2, h3⟩ := hrel
    by_cases hlt : k < 100
    · have c1 := h1.cell (acells_get _ _ _ k hlt)
      have c3 := h3.cell (acells_get _ _ _ k hlt)
      have f3 := h3.free k
      go_wp2_with fail
      go_roundw
      case rel =>
        refine ⟨k + 1, by omega, by go_num, hb.setCell (by simp; omega) _, h1.setOther _ (by simp; omega), h2.setOther _ (by simp), ?_⟩
        have h4 := h3.set k (.int .u8 (f k))
        rw [acells_set _ _ _ _ _ hlt] at h4
        refine Eq.trans h4 ?_
        rw [acells_congr (fun i _ => ?_)]
        by_cases e : i = k
        · subst e; simp
        · by_cases e2 : i < k
          · simp [e, e2, Nat.lt_succ_of_lt e2]
          · simp [e, e2]; omega
      case measure => simp [intOf]; omega
    · have hge : 100 ≤ k := by omega
      have e3 : acells .u8 100 (fun j => if j < k then f j else 0) = acells .u8 100 f := acells_congr (fun i hi => by rw [if_pos (by omega)])
      rw [e3] at h3; clear e3
      go_wp2_with (first | (refine wpList_load_row rfl 23 _ rfl (w.heap.size + 1 + 1) rfl 23 _ (0, 0) _ h3 Tryd.underlying23 rfl (by rw [acells_size]; exact sizeK) ?_) | (refine wpList_store_row rfl 23 _ _ rfl (w.heap.size + 1) (acells .u8 100 f) rfl rfl 23 _ h2 (by rw [acells_size]; exact sizeK) (by rw [acells_size, acells_size]) (acells_one _ _ _) ?_))
      exact bodyPost_ret (results_cell_row rfl _ _ (w.heap.size + 1) 23 _ _ _ rfl (h2.row _) Tryd.underlying23 rfl (by rw [acells_size]; exact sizeK)) rfl ⟨rfl, below_row hb (by omega) _⟩
set_option maxHeartbeats 400000 in
theorem toInt16A100 (f : Nat → Int) (w : World) : Calls Tryd.prog 43 #[.agg (acells .i16 100 f)] w fun e w' => e = .returned (.agg (acells .i16 100 f)) ∧ Below w.heap.size w w' := by
  go_enter Tryd.func43, Tryd.ntmps43
  go_wp2_with fail
  rw [zeroS]
  obtain ⟨W, hW⟩ : ∃ W, ((w.alloc (Obj.cells (acells .i16 100 f) 25)).alloc (Obj.cells (acells .i16 100 (fun _ => 0)) 25)).alloc (Obj.cells (acells .i16 100 (fun _ => 0)) 25) = W := ⟨_, rfl⟩
  have hb : Below w.heap.size w W := by subst hW; exact (((Below.refl _ _).alloc (Nat.le_refl _) _).alloc (by simp) _).alloc (by simp; omega) _
  have h1 : Blk W w.heap.size (acells .i16 100 f) 25 := by subst hW; exact ((Blk.new _ _ _).alloc _).alloc _
  have h2 : Blk W (w.heap.size + 1) (acells .i16 100 (fun _ => 0)) 25 := by subst hW; have := (Blk.new (w.alloc (Obj.cells (acells .i16 100 f) 25)) (acells .i16 100 (fun _ => 0)) 25).alloc (Obj.cells (acells .i16 100 (fun _ => 0)) 25); rwa [World.size_alloc] at this
  have h3 : Blk W (w.heap.size + 1 + 1) (acells .i16 100 (fun _ => 0)) 25 := by subst hW; have := Blk.new ((w.alloc (Obj.cells (acells .i16 100 f) 25)).alloc (Obj.cells (acells .i16 100 (fun _ => 0)) 25)) (acells .i16 100 (fun _ => 0)) 25; rwa [World.size_alloc, World.size_alloc] at this
  rw [hW]; clear hW
  go_loopw [4] (fun i wr => ∃ k : Nat, k ≤ 100 ∧ i = .int .i64 k ∧ Below w.heap.size w wr ∧ Blk wr w.heap.size (acells .i16 100 f) 25 ∧ Blk wr (w.heap.size + 1) (acells .i16 100 (fun _ => 0)) 25 ∧ Blk wr (w.heap.size + 1 + 1) (acells .i16 100 (fun j => if j < k then f j else 0)) 25) (fun i _ => 100 - (intOf i).toNat)
  case atStart => exact ⟨0, by omega, rfl, hb, h1, h2, by simpa using h3⟩
  case round =>
    clear hb h1 h2 h3
    obtain ⟨k, hk, rfl, hb, h1, h2, h3⟩ := hrel
    by_cases hlt : k < 100
    · have c1 := h1.cell (acells_get _ _ _ k hlt)
      have c3 := h3.cell (acells_get _ _ _ k hlt)
      have f3 := h3.free k
      go_wp2_with fail
      go_roundw
      case rel =>
        refine ⟨k + 1, by omega, by go_num, hb.setCell (by simp; omega) _, h1.setOther _ (by simp; omega), h2.setOther _ (by simp), ?_⟩
        have h4 := h3.set k (.int .i16 (f k))
        rw [acells_set _ _ _ _ _ hlt] at h4
        refine Eq.trans h4 ?_
        rw [acells_congr (fun i _ => ?_)]
        by_cases e : i = k
        · subst e; simp
        · by_cases e2 : i < k
          · simp [e, e2, Nat.lt_succ_of_lt e2]
          · simp [e, e2]; omega
      case measure => simp [intOf]; omega
    · have hge : 100 ≤ k := by omega
      have e3 : acells .i16 100 (fun j => if j < k then f j else 0) = acells .i16 100 f := acells_congr (fun i hi => by rw [if_pos (by omega)])
      rw [e3] at h3; clear e3
      go_wp2_with (first | (refine wpList_load_row rfl 25 _ rfl (w.heap.size + 1 + 1) rfl 25 _ (0, 0) _ h3 Tryd.underlying25 rfl (by rw [acells_size]; exact sizeS) ?_) | (refine wpList_store_row rfl 25 _ _ rfl (w.heap.size + 1) (acells .i16 100 f) rfl rfl 25 _ h2 (by rw [acells_size]; exact sizeS) (by rw [acells_size, acells_size]) (acells_one _ _ _) ?_))
      exact bodyPost_ret (results_cell_row rfl _ _ (w.heap.size + 1) 25 _ _ _ rfl (h2.row _) Tryd.underlying25 rfl (by rw [acells_size]; exact sizeS)) rfl ⟨rfl, below_row hb (by omega) _⟩
set_option maxHeartbeats 400000 in
theorem eqByteA100 (f : Nat → Int) (w : World) : Calls Tryd.prog 49 #[.agg (acells .u8 100 f), .agg (acells .u8 100 f)] w fun e w' => e = .returned (.bool true) ∧ Below w.heap.size w w' := by
  go_enter Tryd.func49, Tryd.ntmps49
  go_wp2_with fail
  obtain ⟨W, hW⟩ : ∃ W, (w.alloc (Obj.cells (acells .u8 100 f) 23)).alloc (Obj.cells (acells .u8 100 f) 23) = W := ⟨_, rfl⟩
  have hb : Below w.heap.size w W := by subst hW; exact ((Below.refl _ _).alloc (Nat.le_refl _) _).alloc (by simp) _
  have h1 : Blk W w.heap.size (acells .u8 100 f) 23 := by subst hW; exact (Blk.new _ _ _).alloc _
  have h2 : Blk W (w.heap.size + 1) (acells .u8 100 f) 23 := by subst hW; have := Blk.new (w.alloc (Obj.cells (acells .u8 100 f) 23)) (acells .u8 100 f) 23; rwa [World.size_alloc] at this
  rw [hW]; clear hW
  go_loopw [5] (fun i wr => ∃ k : Nat, k ≤ 100 ∧ i = .int .i64 k ∧ Below w.heap.size w wr ∧ Blk wr w.heap.size (acells .u8 100 f) 23 ∧ Blk wr (w.heap.size + 1) (acells .u8 100 f) 23) (fun i _ => 100 - (intOf i).toNat)
  case atStart => exact ⟨0, by omega, rfl, hb, h1, h2⟩
  case round =>
    clear hb h1 h2
    obtain ⟨k, hk, rfl, hb, h1, h2⟩ := hrel
    by_cases hlt : k < 100
    · have c1 := h1.cell (acells_get _ _ _ k hlt)
      have c2 := h2.cell (acells_get _ _ _ k hlt)
      go_wp2_with fail
      go_quiet (fail)
      go_wp2_with fail
      go_roundw
      case rel => exact ⟨k + 1, by omega, by go_num, below_drewN _ hb, h1.drewN _, h2.drewN _⟩
      case measure => simp [intOf]; omega
    · have hge : 100 ≤ k := by omega
      go_wp2_with fail
      go_ret
      exact ⟨rfl, hb⟩

set_option maxHeartbeats 400000 in
theorem eqInt16A100 (f : Nat → Int) (w : World) : Calls Tryd.prog 50 #[.agg (acells .i16 100 f), .agg (acells .i16 100 f)] w fun e w' => e = .returned (.bool true) ∧ Below w.heap.size w w' := by
  go_enter Tryd.func50, Tryd.ntmps50
  go_wp2_with fail
  obtain ⟨W, hW⟩ : ∃ W, (w.alloc (Obj.cells (acells .i16 100 f) 25)).alloc (Obj.cells (acells .i16 100 f) 25) = W := ⟨_, rfl⟩
  have hb : Below w.heap.size w W := by subst hW; exact ((Below.refl _ _).alloc (Nat.le_refl _) _).alloc (by simp) _
  have h1 : Blk W w.heap.size (acells .i16 100 f) 25 := by subst hW; exact (Blk.new _ _ _).alloc _
  have h2 : Blk W (w.heap.size + 1) (acells .i16 100 f) 25 := by subst hW; have := Blk.new (w.alloc (Obj.cells (acells .i16 100 f) 25)) (acells .i16 100 f) 25; rwa [World.size_alloc] at this
  rw [hW]; clear hW
  go_loopw [5] (fun i wr => ∃ k : Nat, k ≤ 100 ∧ i = .int .i64 k ∧ Below w.heap.size w wr ∧ Blk wr w.heap.size (acells .i16 100 f) 25 ∧ Blk wr (w.heap.size + 1) (acells .i16 100 f) 25) (fun i _ => 100 - (intOf i).toNat)
  case atStart => exact ⟨0, by omega, rfl, hb, h1, h2⟩
  case round =>
    clear hb h1 h2
    obtain ⟨k, hk, rfl, hb, h1, h2⟩ := hrel
    by_cases hlt : k < 100
    · have c1 := h1.cell (acells_get _ _ _ k hlt)
      have c2 := h2.cell (acells_get _ _ _ k hlt)
      go_wp2_with fail
      go_quiet (fail)
      go_wp2_with fail
      go_roundw
      case rel => exact ⟨k + 1, by omega, by go_num, below_drewN _ hb, h1.drewN _, h2.drewN _⟩
      case measure => simp [intOf]; omega
    · have hge : 100 ≤ k := by omega
      go_wp2_with fail
      go_ret
      exact ⟨rfl, hb⟩


set_option maxRecDepth 100000 in
set_option maxHeartbeats 1000000 in
theorem toField (f : Fd) (w : World) : Calls Tryd.prog 10 #[.agg (fcells f)] w fun e w' => e = .returned (.agg (fcells f)) ∧ Below w.heap.size w w' := by
  go_enter Tryd.func10, Tryd.ntmps10
  go_upto_region 2 with (fail)
  rw [zeroFd]
  obtain ⟨W, hW, M⟩ := open3 w (fcells f) 27 (fcells Fd.zero) 30 (fcells Fd.zero) 30
  rw [hW]; clear hW
  have c0 := (M.at 0 rfl).cell (fcells_0 f)
  have c1 := (M.at 0 rfl).cell (fcells_1 f)
  have d0 := (M.at 2 rfl).cell (fcells_0 Fd.zero)
  have d1 := (M.at 2 rfl).cell (fcells_1 Fd.zero)
  have e0 := (M.at 2 rfl).free 0
  have e1 := (M.at 2 rfl).free 1
  go_upto_region 4 with (fail)
  have M2 := (M.set 2 0 (.int .i8 f.W) rfl _ (fcells_setW Fd.zero f.W)).set 2 1 (.int .i8 f.H) rfl _ (fcells_setH _ f.H)
  generalize ((W.setCell _ _).setCell _ _) = W2 at M2 ⊢
  clear c0 c1 d0 d1 e0 e1 M
  go_upto_region 5 with (first
    | (refine wpList_load_part rfl 23 _ rfl w.heap.size 2 rfl (acells .u8 100 f.K) _ (M2.at 0 rfl).kinds Tryd.underlying23 rfl (by rw [acells_size]; exact sizeK) ?_)
    | (go_at_call 42; refine (toByteA100 _ _).mono ?_; rintro e W3 ⟨rfl, hb3⟩; have M3 := M2.call hb3; clear M2 hb3)
    | (refine wpList_store_mid rfl 23 _ _ rfl (w.heap.size + 1 + 1) 2 (acells .u8 100 f.K) rfl rfl ((M3.at 2 rfl).there 2 _ (by simp [acells_size, fcells_size])) (by rw [acells_size]; exact sizeK) (acells_one _ _ _) ?_; have M4 := M3.cells 2 2 _ rfl _ ((M3.at 2 rfl).setKinds f.K); clear M3))
  generalize World.setCells _ _ _ _ = W4 at M4 ⊢
  go_upto_region 6 with (first
    | (refine wpList_load_part rfl 25 _ rfl w.heap.size 102 rfl (acells .i16 100 f.S) _ (M4.at 0 rfl).seeds Tryd.underlying25 rfl (by rw [acells_size]; exact sizeS) ?_)
    | (go_at_call 43; refine (toInt16A100 _ _).mono ?_; rintro e W5 ⟨rfl, hb5⟩; have M5 := M4.call hb5; clear M4 hb5)
    | (refine wpList_store_mid rfl 25 _ _ rfl (w.heap.size + 1 + 1) 102 (acells .i16 100 f.S) rfl rfl ((M5.at 2 rfl).there 102 _ (by simp [acells_size, fcells_size])) (by rw [acells_size]; exact sizeS) (acells_one _ _ _) ?_; have M6 := M5.cells 2 102 _ rfl _ ((M5.at 2 rfl).setSeeds f.S); clear M5))
  generalize World.setCells _ _ _ _ = W6 at M6 ⊢
  have h6 : Blk W6 (w.heap.size + 1 + 1) (fcells f) 30 := M6.at 2 rfl
  have g6 := M6.at 1 rfl
  go_wp2_with (first | (refine wpList_load_row rfl 30 _ rfl (w.heap.size + 1 + 1) rfl 30 _ (0, 0) _ h6 Tryd.underlying30 rfl (by rw [fcells_size]; exact sizeFd) ?_) | (refine wpList_store_row rfl 30 _ _ rfl (w.heap.size + 1) (fcells f) rfl rfl 30 _ g6 (by rw [fcells_size]; exact sizeFd) (by rw [fcells_size, fcells_size]) (fcells_one _) ?_))
  exact bodyPost_ret (results_cell_row rfl _ _ (w.heap.size + 1) 30 _ _ _ rfl (g6.row _) Tryd.underlying30 rfl (by rw [fcells_size]; exact sizeFd)) rfl ⟨rfl, below_row M6.below (by omega) _⟩

end Go.Proofs.YtaioflkonpommaaDoor
