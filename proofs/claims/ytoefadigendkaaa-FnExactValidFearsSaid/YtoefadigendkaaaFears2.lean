/-
  The law's copy of fears; the program's ValidFears.
-/
import Derived.Test.YtoefadigendkaaaFears
namespace Go.Proofs.Ytoefadigendkaaa
open Go Go.RowKit

set_option maxRecDepth 100000 in
set_option maxHeartbeats 1000000 in
theorem toFears (f : Nat → Int) (w : World) : Calls Try.prog 14 #[.agg (acells .i16 100 f)] w fun e w' => e = .returned (.agg (acells .i16 100 f)) ∧ Below w.heap.size w w' := by
  go_enter Try.func14, Try.ntmps14
  have hzE := zrunE
  go_wp2_with fail
  rw [zeroE]
  obtain ⟨W, hW⟩ : ∃ W, ((w.alloc (Obj.cells (acells .i16 100 f) 34)).alloc (Obj.cells (acells .i16 100 (fun _ => 0)) 40)).alloc (Obj.cells (acells .i16 100 (fun _ => 0)) 40) = W := ⟨_, rfl⟩
  have hb : Below w.heap.size w W := by subst hW; exact (((Below.refl _ _).alloc (Nat.le_refl _) _).alloc (by simp) _).alloc (by simp; omega) _
  have h1 : Blk W w.heap.size (acells .i16 100 f) 34 := by subst hW; exact ((Blk.new _ _ _).alloc _).alloc _
  have h2 : Blk W (w.heap.size + 1) (acells .i16 100 (fun _ => 0)) 40 := by subst hW; have := (Blk.new (w.alloc (Obj.cells (acells .i16 100 f) 34)) (acells .i16 100 (fun _ => 0)) 40).alloc (Obj.cells (acells .i16 100 (fun _ => 0)) 40); rwa [World.size_alloc] at this
  have h3 : Blk W (w.heap.size + 1 + 1) (acells .i16 100 (fun _ => 0)) 40 := by subst hW; have := Blk.new ((w.alloc (Obj.cells (acells .i16 100 f) 34)).alloc (Obj.cells (acells .i16 100 (fun _ => 0)) 40)) (acells .i16 100 (fun _ => 0)) 40; rwa [World.size_alloc, World.size_alloc] at this
  rw [hW]; clear hW
  go_loopw [4] (fun i wr => ∃ k : Nat, k ≤ 100 ∧ i = .int .i64 k ∧ Below w.heap.size w wr ∧ Blk wr w.heap.size (acells .i16 100 f) 34 ∧ Blk wr (w.heap.size + 1) (acells .i16 100 (fun _ => 0)) 40 ∧ Blk wr (w.heap.size + 1 + 1) (acells .i16 100 (fun j => if j < k then f j else 0)) 40) (fun i _ => 100 - (intOf i).toNat)
  case atStart => exact ⟨0, by omega, rfl, hb, h1, h2, by simpa using h3⟩
  case round =>
    clear hb h1 h2 h3
    obtain ⟨k, hk, rfl, hb, h1, h2, h3⟩ := hrel
    by_cases hlt : k < 100
    · have c1 := h1.cell (acells_get _ _ _ k hlt)
      have c3 := h3.cell (acells_get _ _ _ k hlt)
      have f3 := h3.free k
      go_wp2_with fail
      go_roundw
      case rel =>
        refine ⟨k + 1, by omega, by go_num, hb.setCell (by simp; omega) _, h1.setOther _ (by simp; omega), h2.setOther _ (by simp), ?_⟩
        have h4 := h3.set k (.int .i16 (f k))
        rw [acells_set _ _ _ _ _ hlt] at h4
        refine Eq.trans h4 ?_
        rw [acells_congr (fun i _ => ?_)]
        by_cases e : i = k
        · subst e; simp
        · by_cases e2 : i < k
          · simp [e, e2, Nat.lt_succ_of_lt e2]
          · simp [e, e2]; omega
      case measure => simp [intOf]; omega
    · have hge : 100 ≤ k := by omega
      have e3 : acells .i16 100 (fun j => if j < k then f j else 0) = acells .i16 100 f := acells_congr (fun i hi => by rw [if_pos (by omega)])
      rw [e3] at h3; clear e3
      go_wp2_with (first | (refine wpList_load_row rfl 40 _ rfl (w.heap.size + 1 + 1) rfl 40 _ (0, 0) _ h3 Try.underlying40 rfl (by rw [acells_size]; exact sizeE) ?_) | (refine wpList_store_row rfl 40 _ _ rfl (w.heap.size + 1) (acells .i16 100 f) rfl rfl 40 _ h2 (by rw [acells_size]; exact sizeE) (by rw [acells_size, acells_size]) (acells_one _ _ _) ?_))
      exact bodyPost_ret (results_cell_row rfl _ _ (w.heap.size + 1) 40 _ _ _ rfl (h2.row _) Try.underlying40 rfl (by rw [acells_size]; exact sizeE)) rfl ⟨rfl, below_row hb (by omega) _⟩

set_option maxRecDepth 100000 in
set_option maxHeartbeats 2000000 in
theorem implValidFears (f : Fd) (hf : f.Wf) (g : Nat → Int) (hg : Wf16 g) (w : World) : Calls Try.prog 15 #[.agg (fcells f), .agg (acells .i16 100 g)] w fun e w' => e = .returned (.bool (okFears f g)) ∧ Below w.heap.size w w' := by
  unfold okFears
  cases hok : okF f with
  | false =>
    go_enter Try.func15, Try.ntmps15
    go_upto_region 1 with (fail)
    obtain ⟨W, hW, M⟩ := open2 w (fcells f) 38 (acells .i16 100 g) 40
    rw [hW]; clear hW
    go_wp2_with (first
      | (refine wpList_load_part rfl 38 _ rfl w.heap.size 0 rfl (fcells f) _ (M.at 0 rfl).whole Try.underlying38 rfl (by rw [fcells_size]; exact sizeFd) ?_)
      | (go_at_call 27; refine (validField_any f hf _).mono ?_; rintro e W2 ⟨rfl, hb⟩; rw [hok]; have M2 := M.call hb))
    go_ret
    exact ⟨rfl, M2.below⟩
  | true =>
    go_enter Try.func15, Try.ntmps15
    go_upto_region 1 with (fail)
    obtain ⟨W, hW, M⟩ := open2 w (fcells f) 38 (acells .i16 100 g) 40
    rw [hW]; clear hW
    go_wp2_with (first
      | (refine wpList_load_part rfl 38 _ rfl w.heap.size 0 rfl (fcells f) _ (M.at 0 rfl).whole Try.underlying38 rfl (by rw [fcells_size]; exact sizeFd) ?_)
      | (go_at_call 27; refine (validField_any f hf _).mono ?_; rintro e W2 ⟨rfl, hb⟩; rw [hok]; have M2 := M.call hb)
      | (refine wpList_load_wanted rfl 40 _ rfl (w.heap.size + 1) 0 rfl (acells .i16 100 g) _ (M2.at 1 rfl).whole Try.underlying40 rfl (by rw [acells_size]; exact sizeE) ?_)
      | (refine wpList_load_wanted rfl 38 _ rfl w.heap.size 0 rfl (fcells f) _ (M2.at 0 rfl).whole Try.underlying38 rfl (by rw [fcells_size]; exact sizeFd) ?_)
      | (go_at_call 28; refine (fit_any f hok g hg _).mono ?_; rintro e W3 ⟨rfl, hb3⟩; have M3 := M2.call hb3))
    go_ret
    exact ⟨rfl, M3.below⟩
end Go.Proofs.Ytoefadigendkaaa
