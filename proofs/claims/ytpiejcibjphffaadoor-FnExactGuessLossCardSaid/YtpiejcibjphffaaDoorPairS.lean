/-
  The model's losses of two fields.
-/
import Derived.Test.YtpiejcibjphffaaDoorPairE
import Derived.Test.YtpiejcibjphffaaDoorRow
namespace Go.Proofs.YtpiejcibjphffaaDoor
open Go Go.RowKit

theorem bZeroS (w : World) : (Instr.build 25 #[]).run Tryd.prog w = .ok (.agg Tryd.zeroCells25) w := by kernel_rfl
set_option maxRecDepth 100000 in
set_option maxHeartbeats 4000000 in
theorem specLossOf (f g : Fd) (hf : f.Wf) (hg : g.Wf) (w : World) : Calls Tryd.prog 10 #[.agg (fcells f), .agg (fcells g)] w fun e w' => e = .returned (.tuple #[.agg (acells .i16 100 (lossRow f g)), .int .i64 (pairCode f g)]) ∧ Below w.heap.size w w' := by
  unfold lossRow
  by_cases h0 : pairCode f g = 0
  · rw [if_pos h0]
    have hp := Lib.hid h0
    obtain ⟨h1, h2, _, _⟩ := pairCode_fine h0
    have H1 := Lib.hid h1
    have H2 := Lib.hid h2
    clear h0 h1 h2
    go_enter Tryd.func10, Tryd.ntmps10
    go_upto_region 1 with (fail)
    obtain ⟨W, hW, M⟩ := open3 w (fcells f) 30 (fcells g) 30 Tryd.zeroCells25 25
    rw [hW]; clear hW
    have hz : Hid (Tryd.zeroCells25.size = 100) := Lib.hid (by rw [zeroS, acells_size])
    go_wp2_with (first
      | (go_at_call 32; refine (l06Pair_any f g hf hg _ _ _ (M.at 0 rfl) (M.at 1 rfl)).mono ?_; rintro e W2 ⟨rfl, hb⟩; rw [hp.out]; have M2 := M.call hb; clear hb)
      | (go_at_call 33; refine (l06Loss_any f g H1.out H2.out _ _ _ (M2.at 0 rfl) (M2.at 1 rfl)).mono ?_; rintro e W3 ⟨rfl, hb⟩; have M3 := M2.call hb; clear hb)
      | (refine wpList_store_row rfl 25 _ _ rfl (w.heap.size + 1 + 1) (acells .i16 100 (lossN f g)) rfl rfl 25 _ (M3.at 2 rfl) (by rw [acells_size]; exact sizeS) (by rw [acells_size, hz.out]) (acells_one _ _ _) ?_))
    have M4 := M3.row 2 rfl (acells .i16 100 (lossN f g))
    exact bodyPost_ret (results_row_tmp rfl _ _ (w.heap.size + 1 + 1) 25 _ _ _ rfl (M4.at 2 rfl) Tryd.underlying25 rfl (by rw [acells_size]; exact sizeS)) rfl ⟨by rw [hp.out]; rfl, M4.below⟩
  · rw [if_neg h0]
    have hne : (pairCode f g == 0) = false := by simpa using h0
    have hne2 : (pairCode f g != 0) = true := by simpa using h0
    go_enter Tryd.func10, Tryd.ntmps10
    go_upto_region 1 with (fail)
    obtain ⟨W, hW, M⟩ := open3 w (fcells f) 30 (fcells g) 30 Tryd.zeroCells25 25
    rw [hW]; clear hW
    have hz : Hid (Tryd.zeroCells25.size = 100) := Lib.hid (by rw [zeroS, acells_size])
    go_wp2_with (first
      | (go_at_call 32; refine (l06Pair_any f g hf hg _ _ _ (M.at 0 rfl) (M.at 1 rfl)).mono ?_; rintro e W2 ⟨rfl, hb⟩; have M2 := M.call hb; clear hb)
      | (refine wpList_build0 rfl 25 rfl (.agg Tryd.zeroCells25) (bZeroS _) ?_)
      | (refine wpList_store_row rfl 25 _ _ rfl (w.heap.size + 1 + 1) Tryd.zeroCells25 rfl rfl 25 _ (M2.at 2 rfl) (by rw [hz.out]; exact sizeS) rfl (by rw [zeroS]; exact acells_one _ _ _) ?_))
    have M4 := M2.row 2 rfl Tryd.zeroCells25
    exact bodyPost_ret (results_row_tmp rfl _ _ (w.heap.size + 1 + 1) 25 _ _ _ rfl (M4.at 2 rfl) Tryd.underlying25 rfl (by rw [hz.out]; exact sizeS)) rfl ⟨by rw [zeroS]; rfl, M4.below⟩

set_option maxRecDepth 100000 in
set_option maxHeartbeats 1000000 in
theorem l01SumC_any (f : Fd) (hok : okF f = true) (b : Nat) (w : World) (B : Blk w b (fcells f) 30) :
    Calls Tryd.prog 40 #[.pointer (some ⟨b, 0, none⟩)] w fun e w' => e = .returned (.int .i64 (totTo f.S 100)) ∧ w = w' := by
  have HB := Lib.hid B
  clear B
  go_enter Tryd.func40, Tryd.ntmps40
  go_wp2_with fail
  go_loop [3, 4] (fun s i => ∃ k : Nat, k ≤ 100 ∧ i = .int .i64 k ∧ s = .int .i64 (totTo f.S k)) (fun _ i => 100 - (intOf i).toNat)
  case atStart => exact ⟨0, by omega, rfl, rfl⟩
  case round =>
    obtain ⟨k, hk, rfl, rfl⟩ := hrel
    obtain ⟨hs1, hs2⟩ := totTo_in (g := f.S) (a := 0) (m := 1000) (n := k) (by omega) (by omega) (fun i hi => ok_seeds hok (by omega))
    by_cases hlt : k < 100
    · have cS := HB.out.cell (fcells_S f k hlt)
      obtain ⟨hb1, hb2⟩ := ok_seeds hok hlt
      go_wp2_with fail
      go_round
      case rel => exact ⟨k + 1, by omega, by go_num, by rw [totTo_succ]⟩
      case measure => simp [intOf]; omega
    · obtain rfl : k = 100 := by omega
      go_wp2_with fail
      go_ret
      exact ⟨rfl, rfl⟩
set_option maxRecDepth 100000 in
set_option maxHeartbeats 4000000 in
theorem specAllLoss (f g : Fd) (hf : f.Wf) (hg : g.Wf) (w : World) : Calls Tryd.prog 14 #[.agg (fcells f), .agg (fcells g)] w fun e w' => e = .returned (.tuple #[.int .i64 (lossSum f g), .int .i64 (pairCode f g)]) ∧ Below w.heap.size w w' := by
  unfold lossSum
  by_cases h0 : pairCode f g = 0
  · rw [if_pos h0]
    have hp := Lib.hid h0
    obtain ⟨h1, h2, _, _⟩ := pairCode_fine h0
    have H1 := Lib.hid h1
    have H2 := Lib.hid h2
    have e : totTo (lossN f g) 100 = totTo f.S 100 - totTo g.S 100 := totTo_sub f.S g.S 100
    obtain ⟨a1, a2⟩ := totTo_in (g := f.S) (a := 0) (m := 1000) (n := 100) (by omega) (by omega) (fun i hi => ok_seeds h1 (by omega))
    obtain ⟨b1, b2⟩ := totTo_in (g := g.S) (a := 0) (m := 1000) (n := 100) (by omega) (by omega) (fun i hi => ok_seeds h2 (by omega))
    simp only [Int.zero_mul] at a1 b1
    have he := Lib.hid e
    clear h0 h1 h2 e
    go_enter Tryd.func14, Tryd.ntmps14
    go_upto_region 1 with (fail)
    obtain ⟨W, hW, M⟩ := open2 w (fcells f) 30 (fcells g) 30
    rw [hW]; clear hW
    have ok1 : True := trivial
    have ok2 : True := trivial
    go_wp2_with (first
      | (go_at_call 32; refine (l06Pair_any f g hf hg _ _ _ (M.at 0 rfl) (M.at 1 rfl)).mono ?_; rintro e W2 ⟨rfl, hb⟩; rw [hp.out]; have M2 := M.call hb; clear hb)
      | (go_at_call 40; clear ok1; refine (l01SumC_any f H1.out _ _ (M2.at 0 rfl)).mono ?_; rintro e w' ⟨rfl, rfl⟩)
      | (go_at_call 40; clear ok2; refine (l01SumC_any g H2.out _ _ (M2.at 1 rfl)).mono ?_; rintro e w' ⟨rfl, rfl⟩))
    go_ret2
    exact ⟨by rw [he.out, hp.out]; rfl, M2.below⟩
  · rw [if_neg h0]
    have hne2 : (pairCode f g != 0) = true := by simpa using h0
    go_enter Tryd.func14, Tryd.ntmps14
    go_upto_region 1 with (fail)
    obtain ⟨W, hW, M⟩ := open2 w (fcells f) 30 (fcells g) 30
    rw [hW]; clear hW
    go_wp2_with (first
      | (go_at_call 32; refine (l06Pair_any f g hf hg _ _ _ (M.at 0 rfl) (M.at 1 rfl)).mono ?_; rintro e W2 ⟨rfl, hb⟩; have M2 := M.call hb; clear hb))
    go_ret2
    exact ⟨rfl, M2.below⟩
end Go.Proofs.YtpiejcibjphffaaDoor
