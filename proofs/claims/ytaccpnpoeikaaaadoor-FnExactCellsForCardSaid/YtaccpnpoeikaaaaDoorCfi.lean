/-
  The cells to which a flock would go: the program, with its check.
-/
import Derived.Test.YtaccpnpoeikaaaaDoorCfr
namespace Go.Proofs.YtaccpnpoeikaaaaDoor
open Go Go.RowKit

set_option maxRecDepth 100000 in
set_option maxHeartbeats 8000000 in
theorem implCellsFor (f : Fd) (hf : f.Wf) (g : Nat → Int) (hg : Wf16 g) (a : Nat → Int) (ha : WfR a) (A : Nat → Addr) (w : World) (T0 : TabAt w) (S0 : Sents w A) :
    Calls Tryd.prog 11 #[.agg (fcells f), .agg (acells .i16 100 g), vFlock a] w fun e w' => e = .returned (.tuple #[.agg (acells .u64 2 (cfVal f g a)), .int .i64 (ffCode f g a)]) ∧ Below w.heap.size w w' := by
  have S := Lib.hid S0
  have T := Lib.hid T0
  clear S0 T0
  have hif := isIfaceErr
  unfold cfVal
  cases hok : ffOk f g a with
  | false =>
    have hcode : ffCode f g a = 1 := by unfold ffCode; rw [hok]; rfl
    have HOK := Lib.hid hok
    rw [hcode, if_neg (by decide)]
    clear hok hcode
    go_enter Tryd.func11, Tryd.ntmps11
    go_upto_region 1 with (fail)
    rw [zero2]
    obtain ⟨W, hW, M⟩ := open4 w (fcells f) 35 (acells .i16 100 g) 37 (flc a) 39 (acells .u64 2 (fun _ => 0)) 32
    unfold flc at hW
    rw [hW]; clear hW
    go_wp2_with (first
      | (refine wpList_load_part rfl 35 _ rfl w.heap.size 0 rfl (fcells f) _ (M.at 0 rfl).whole Tryd.underlying35 rfl (by rw [fcells_size]; exact sizeFd) ?_)
      | (refine wpList_load_part rfl 39 _ rfl (w.heap.size + 1 + 1) 0 rfl (flc a) _ (M.at 2 rfl).whole Tryd.underlying39 rfl (by kernel_rfl) ?_)
      | (refine wpList_buildRow rfl 46 39 _ rfl (flc a) rfl Tryd.underlying46 (by rw [flc_size]; kernel_rfl) (by rw [flc_size]; kernel_rfl) (by rw [flc_size]; omega) (by rw [flc_size]; omega) ?_; have MA := M.alloc (flc a) 39)
      | (refine wpList_load_part rfl 37 _ rfl (w.heap.size + 1) 0 rfl (acells .i16 100 g) _ (MA.at 1 rfl).whole Tryd.underlying37 rfl (by rw [acells_size]; exact sizeE) ?_)
      | (refine wpList_buildRow rfl 90 37 _ rfl (acells .i16 100 g) rfl Tryd.underlying90 (by rw [acells_size]; exact sizeE) (by rw [acells_size]; kernel_rfl) (by rw [acells_size]; omega) (by rw [acells_size]; omega) ?_; have MB := MA.alloc (acells .i16 100 g) 37; have HB1 := Lib.hid ((Blk.new W (flc a) 39).alloc (.cells (acells .i16 100 g) 37)); have HB2 := Lib.hid (blk_next W (flc a) 39 (acells .i16 100 g) 37))
      | (go_at_call 28; refine (checkOne f hf g hg a ha A W.heap.size (W.heap.size + 1) 39 37 _ (T.out.later MB.below) (S.out.later MB.below) HB1.out HB2.out).mono ?_; rintro e W2 ⟨rfl, hb⟩; rw [HOK.out]; simp only [errIf, Bool.false_eq_true, if_false, if_true]; have M2 := MB.call hb; clear hb HB1 HB2)
      | (go_at_call 29; refine (codeOf_err A 1 (by omega) (by omega) _ (S.out.later M2.below)).mono ?_; rintro e W3 ⟨rfl, rfl⟩)
      | (refine wpList_store_row rfl 32 _ _ rfl (w.heap.size + 1 + 1 + 1) (acells .u64 2 (fun _ => 0)) rfl rfl 32 _ (M2.at 3 rfl) (by rw [acells_size]; exact sizeC) (by simp only [acells_size]) (acells_one _ _ _) ?_))
    have M3 := M2.row 3 rfl (acells .u64 2 (fun _ => 0))
    exact bodyPost_ret (results_row_tmp rfl _ _ (w.heap.size + 1 + 1 + 1) 32 _ _ _ rfl (M3.at 3 rfl) Tryd.underlying32 rfl (by rw [acells_size]; exact sizeC)) rfl ⟨rfl, M3.below⟩
  | true =>
    have hcode : ffCode f g a = 0 := by unfold ffCode; rw [hok]; rfl
    have HOK := Lib.hid hok
    have h0 := flock_tree (ff_okF hok).2.1
    have HLC := Lib.hid (fun w => cellsFor_any f (ff_okF hok).1 g hg a ha h0 w)
    obtain ⟨g9, hg9⟩ : ∃ g9, wantSet f (wldQ f g a) 100 = g9 := ⟨_, rfl⟩
    rw [hg9] at HLC ⊢
    rw [hcode, if_pos rfl]
    clear hok hcode hg9 h0
    go_enter Tryd.func11, Tryd.ntmps11
    go_upto_region 1 with (fail)
    rw [zero2]
    obtain ⟨W, hW, M⟩ := open4 w (fcells f) 35 (acells .i16 100 g) 37 (flc a) 39 (acells .u64 2 (fun _ => 0)) 32
    unfold flc at hW
    rw [hW]; clear hW
    go_wp2_with (first
      | (refine wpList_load_part rfl 35 _ rfl w.heap.size 0 rfl (fcells f) _ (M.at 0 rfl).whole Tryd.underlying35 rfl (by rw [fcells_size]; exact sizeFd) ?_)
      | (refine wpList_load_part rfl 39 _ rfl (w.heap.size + 1 + 1) 0 rfl (flc a) _ (M.at 2 rfl).whole Tryd.underlying39 rfl (by kernel_rfl) ?_)
      | (refine wpList_buildRow rfl 46 39 _ rfl (flc a) rfl Tryd.underlying46 (by rw [flc_size]; kernel_rfl) (by rw [flc_size]; kernel_rfl) (by rw [flc_size]; omega) (by rw [flc_size]; omega) ?_; have MA := M.alloc (flc a) 39)
      | (refine wpList_load_part rfl 37 _ rfl (w.heap.size + 1) 0 rfl (acells .i16 100 g) _ (MA.at 1 rfl).whole Tryd.underlying37 rfl (by rw [acells_size]; exact sizeE) ?_)
      | (refine wpList_buildRow rfl 90 37 _ rfl (acells .i16 100 g) rfl Tryd.underlying90 (by rw [acells_size]; exact sizeE) (by rw [acells_size]; kernel_rfl) (by rw [acells_size]; omega) (by rw [acells_size]; omega) ?_; have MB := MA.alloc (acells .i16 100 g) 37; have HB1 := Lib.hid ((Blk.new W (flc a) 39).alloc (.cells (acells .i16 100 g) 37)); have HB2 := Lib.hid (blk_next W (flc a) 39 (acells .i16 100 g) 37))
      | (go_at_call 28; refine (checkOne f hf g hg a ha A W.heap.size (W.heap.size + 1) 39 37 _ (T.out.later MB.below) (S.out.later MB.below) HB1.out HB2.out).mono ?_; rintro e W2 ⟨rfl, hb⟩; rw [HOK.out]; simp only [errIf, Bool.false_eq_true, if_false, if_true]; have M2 := MB.call hb; clear hb HB1 HB2)
      | (refine wpList_load_part rfl 35 _ rfl w.heap.size 0 rfl (fcells f) _ (M2.at 0 rfl).whole Tryd.underlying35 rfl (by rw [fcells_size]; exact sizeFd) ?_)
      | (refine wpList_load_part rfl 37 _ rfl (w.heap.size + 1) 0 rfl (acells .i16 100 g) _ (M2.at 1 rfl).whole Tryd.underlying37 rfl (by rw [acells_size]; exact sizeE) ?_)
      | (refine wpList_load_part rfl 39 _ rfl (w.heap.size + 1 + 1) 0 rfl (flc a) _ (M2.at 2 rfl).whole Tryd.underlying39 rfl (by kernel_rfl) ?_)
      | (go_at_call 30; refine (HLC.out _).mono ?_; rintro e W3 ⟨rfl, hb⟩; have M3 := M2.call hb; clear hb)
      | (refine wpList_store_row rfl 32 _ _ rfl (w.heap.size + 1 + 1 + 1) (acells .u64 2 (g9)) rfl rfl 32 _ (M3.at 3 rfl) (by rw [acells_size]; exact sizeC) (by simp only [acells_size]) (acells_one _ _ _) ?_))
    have M4 := M3.row 3 rfl (acells .u64 2 g9)
    exact bodyPost_ret (results_row_tmp rfl _ _ (w.heap.size + 1 + 1 + 1) 32 _ _ _ rfl (M4.at 3 rfl) Tryd.underlying32 rfl (by rw [acells_size]; exact sizeC)) rfl ⟨rfl, M4.below⟩
end Go.Proofs.YtaccpnpoeikaaaaDoor
