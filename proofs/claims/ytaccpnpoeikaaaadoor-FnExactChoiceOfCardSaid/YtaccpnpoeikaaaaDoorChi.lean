/-
  Which cell a flock chooses: the program's, with its check.
-/
import Derived.Test.YtaccpnpoeikaaaaDoorChi0
namespace Go.Proofs.YtaccpnpoeikaaaaDoor
open Go Go.RowKit

set_option maxRecDepth 100000 in
set_option maxHeartbeats 8000000 in
theorem implChoiceOf (f : Fd) (hf : f.Wf) (g : Nat → Int) (hg : Wf16 g) (a : Nat → Int) (ha : WfR a) (A : Nat → Addr) (w : World) (T0 : TabAt w) (S0 : Sents w A) :
    Calls Tryd.prog 19 #[.agg (fcells f), .agg (acells .i16 100 g), vFlock a] w fun e w' => e = .returned (.tuple #[.int .i64 (chVal f g a), .int .i64 (chCode f g a)]) ∧ Below w.heap.size w w' := by
  have S := Lib.hid S0
  have T := Lib.hid T0
  clear S0 T0
  have hif := isIfaceErr
  cases hok : ffOk f g a with
  | false =>
    have hcc : chCode f g a = 1 := by unfold chCode; rw [hok]; rfl
    have hv : chVal f g a = 0 := by unfold chVal; rw [hcc, if_neg (by decide)]
    have HOK := Lib.hid hok
    rw [hv, hcc]
    clear hok hcc hv
    go_enter Tryd.func19, Tryd.ntmps19
    go_upto_region 1 with (fail)
    obtain ⟨W, hW, M⟩ := open3 w (fcells f) 35 (acells .i16 100 g) 37 (flc a) 39
    unfold flc at hW
    rw [hW]; clear hW
    go_wp2_with (first
        | (refine wpList_load_part rfl 35 _ rfl w.heap.size 0 rfl (fcells f) _ (M.at 0 rfl).whole Tryd.underlying35 rfl (by rw [fcells_size]; exact sizeFd) ?_)
        | (refine wpList_load_part rfl 39 _ rfl (w.heap.size + 1 + 1) 0 rfl (flc a) _ (M.at 2 rfl).whole Tryd.underlying39 rfl (by kernel_rfl) ?_)
        | (refine wpList_buildRow rfl 46 39 _ rfl (flc a) rfl Tryd.underlying46 (by rw [flc_size]; kernel_rfl) (by rw [flc_size]; kernel_rfl) (by rw [flc_size]; omega) (by rw [flc_size]; omega) ?_; have MA := M.alloc (flc a) 39)
        | (refine wpList_load_part rfl 37 _ rfl (w.heap.size + 1) 0 rfl (acells .i16 100 g) _ (MA.at 1 rfl).whole Tryd.underlying37 rfl (by rw [acells_size]; exact sizeE) ?_)
        | (refine wpList_buildRow rfl 90 37 _ rfl (acells .i16 100 g) rfl Tryd.underlying90 (by rw [acells_size]; exact sizeE) (by rw [acells_size]; kernel_rfl) (by rw [acells_size]; omega) (by rw [acells_size]; omega) ?_; have MB := MA.alloc (acells .i16 100 g) 37; have HB1 := Lib.hid ((Blk.new W (flc a) 39).alloc (.cells (acells .i16 100 g) 37)); have HB2 := Lib.hid (blk_next W (flc a) 39 (acells .i16 100 g) 37))
        | (go_at_call 28; refine (checkOne f hf g hg a ha A W.heap.size (W.heap.size + 1) 39 37 _ (T.out.later MB.below) (S.out.later MB.below) HB1.out HB2.out).mono ?_; rintro e W2 ⟨rfl, hb⟩; rw [HOK.out]; simp only [errIf, Bool.false_eq_true, if_false, if_true]; have M2 := MB.call hb; clear hb HB1 HB2)
        | (go_at_call 29; refine (codeOf_err A 1 (by omega) (by omega) _ (S.out.later M2.below)).mono ?_; rintro e W3 ⟨rfl, rfl⟩))
    go_ret2
    exact ⟨rfl, M2.below⟩
  | true =>
    have HOK := Lib.hid hok
    have h0 := flock_tree (ff_okF hok).2.1
    have h5 := flock_taste (ff_okF hok).2.1
    have HCO := Lib.hid (fun w S => choiceOf_any f (ff_okF hok).1 g hg a ha h0 h5 A w S)
    by_cases hlen : (mealsR f g a 100).length = 0
    · have hcc : chCode f g a = 6 := by unfold chCode; rw [hok, if_pos rfl, if_pos hlen]
      have hv : chVal f g a = 0 := by unfold chVal; rw [hcc, if_neg (by decide)]
      have h1 : choVal (a 5) (mealsR f g a 100) = 0 := by unfold choVal; rw [if_pos hlen]
      have h2 : choErr A (mealsR f g a 100) = errVal (A 6) := by unfold choErr; rw [if_pos hlen]
      rw [h1, h2] at HCO
      rw [hv, hcc]
      clear hok hcc hv h0 h5 h1 h2 hlen
      go_enter Tryd.func19, Tryd.ntmps19
      go_upto_region 1 with (fail)
      obtain ⟨W, hW, M⟩ := open3 w (fcells f) 35 (acells .i16 100 g) 37 (flc a) 39
      unfold flc at hW
      rw [hW]; clear hW
      go_wp2_with (first
        | (refine wpList_load_part rfl 35 _ rfl w.heap.size 0 rfl (fcells f) _ (M.at 0 rfl).whole Tryd.underlying35 rfl (by rw [fcells_size]; exact sizeFd) ?_)
        | (refine wpList_load_part rfl 39 _ rfl (w.heap.size + 1 + 1) 0 rfl (flc a) _ (M.at 2 rfl).whole Tryd.underlying39 rfl (by kernel_rfl) ?_)
        | (refine wpList_buildRow rfl 46 39 _ rfl (flc a) rfl Tryd.underlying46 (by rw [flc_size]; kernel_rfl) (by rw [flc_size]; kernel_rfl) (by rw [flc_size]; omega) (by rw [flc_size]; omega) ?_; have MA := M.alloc (flc a) 39)
        | (refine wpList_load_part rfl 37 _ rfl (w.heap.size + 1) 0 rfl (acells .i16 100 g) _ (MA.at 1 rfl).whole Tryd.underlying37 rfl (by rw [acells_size]; exact sizeE) ?_)
        | (refine wpList_buildRow rfl 90 37 _ rfl (acells .i16 100 g) rfl Tryd.underlying90 (by rw [acells_size]; exact sizeE) (by rw [acells_size]; kernel_rfl) (by rw [acells_size]; omega) (by rw [acells_size]; omega) ?_; have MB := MA.alloc (acells .i16 100 g) 37; have HB1 := Lib.hid ((Blk.new W (flc a) 39).alloc (.cells (acells .i16 100 g) 37)); have HB2 := Lib.hid (blk_next W (flc a) 39 (acells .i16 100 g) 37))
        | (go_at_call 28; refine (checkOne f hf g hg a ha A W.heap.size (W.heap.size + 1) 39 37 _ (T.out.later MB.below) (S.out.later MB.below) HB1.out HB2.out).mono ?_; rintro e W2 ⟨rfl, hb⟩; rw [HOK.out]; simp only [errIf, Bool.false_eq_true, if_false, if_true]; have M2 := MB.call hb; clear hb HB1 HB2)
        | (refine wpList_load_part rfl 35 _ rfl w.heap.size 0 rfl (fcells f) _ (M2.at 0 rfl).whole Tryd.underlying35 rfl (by rw [fcells_size]; exact sizeFd) ?_)
        | (refine wpList_load_part rfl 37 _ rfl (w.heap.size + 1) 0 rfl (acells .i16 100 g) _ (M2.at 1 rfl).whole Tryd.underlying37 rfl (by rw [acells_size]; exact sizeE) ?_)
        | (refine wpList_load_part rfl 39 _ rfl (w.heap.size + 1 + 1) 0 rfl (flc a) _ (M2.at 2 rfl).whole Tryd.underlying39 rfl (by kernel_rfl) ?_)
        | (go_at_call 39; refine (HCO.out _ (S.out.later M2.below)).mono ?_; rintro e W3 ⟨rfl, hb⟩; have M3 := M2.call hb; clear hb)
        | (go_at_call 29; refine (codeOf_err A 6 (by omega) (by omega) _ (S.out.later M3.below)).mono ?_; rintro e W4 ⟨rfl, rfl⟩))
      go_ret2
      exact ⟨rfl, M3.below⟩
    · have hcc : chCode f g a = 0 := by unfold chCode; rw [hok, if_pos rfl, if_neg hlen]
      have hv : chVal f g a = bL (a 5) (mealsR f g a 100) 0 := by unfold chVal; rw [hcc, if_pos rfl]
      have h1 : choVal (a 5) (mealsR f g a 100) = bL (a 5) (mealsR f g a 100) 0 := by unfold choVal; rw [if_neg hlen]
      have h2 : choErr A (mealsR f g a 100) = .nilIface := by unfold choErr; rw [if_neg hlen]
      rw [h1, h2] at HCO
      rw [hv, hcc]
      obtain ⟨y, hy⟩ : ∃ y, bL (a 5) (mealsR f g a 100) 0 = y := ⟨_, rfl⟩
      rw [hy] at HCO ⊢
      clear hok hcc hv h0 h5 h1 h2 hlen hy
      go_enter Tryd.func19, Tryd.ntmps19
      go_upto_region 1 with (fail)
      obtain ⟨W, hW, M⟩ := open3 w (fcells f) 35 (acells .i16 100 g) 37 (flc a) 39
      unfold flc at hW
      rw [hW]; clear hW
      go_wp2_with (first
        | (refine wpList_load_part rfl 35 _ rfl w.heap.size 0 rfl (fcells f) _ (M.at 0 rfl).whole Tryd.underlying35 rfl (by rw [fcells_size]; exact sizeFd) ?_)
        | (refine wpList_load_part rfl 39 _ rfl (w.heap.size + 1 + 1) 0 rfl (flc a) _ (M.at 2 rfl).whole Tryd.underlying39 rfl (by kernel_rfl) ?_)
        | (refine wpList_buildRow rfl 46 39 _ rfl (flc a) rfl Tryd.underlying46 (by rw [flc_size]; kernel_rfl) (by rw [flc_size]; kernel_rfl) (by rw [flc_size]; omega) (by rw [flc_size]; omega) ?_; have MA := M.alloc (flc a) 39)
        | (refine wpList_load_part rfl 37 _ rfl (w.heap.size + 1) 0 rfl (acells .i16 100 g) _ (MA.at 1 rfl).whole Tryd.underlying37 rfl (by rw [acells_size]; exact sizeE) ?_)
        | (refine wpList_buildRow rfl 90 37 _ rfl (acells .i16 100 g) rfl Tryd.underlying90 (by rw [acells_size]; exact sizeE) (by rw [acells_size]; kernel_rfl) (by rw [acells_size]; omega) (by rw [acells_size]; omega) ?_; have MB := MA.alloc (acells .i16 100 g) 37; have HB1 := Lib.hid ((Blk.new W (flc a) 39).alloc (.cells (acells .i16 100 g) 37)); have HB2 := Lib.hid (blk_next W (flc a) 39 (acells .i16 100 g) 37))
        | (go_at_call 28; refine (checkOne f hf g hg a ha A W.heap.size (W.heap.size + 1) 39 37 _ (T.out.later MB.below) (S.out.later MB.below) HB1.out HB2.out).mono ?_; rintro e W2 ⟨rfl, hb⟩; rw [HOK.out]; simp only [errIf, Bool.false_eq_true, if_false, if_true]; have M2 := MB.call hb; clear hb HB1 HB2)
        | (refine wpList_load_part rfl 35 _ rfl w.heap.size 0 rfl (fcells f) _ (M2.at 0 rfl).whole Tryd.underlying35 rfl (by rw [fcells_size]; exact sizeFd) ?_)
        | (refine wpList_load_part rfl 37 _ rfl (w.heap.size + 1) 0 rfl (acells .i16 100 g) _ (M2.at 1 rfl).whole Tryd.underlying37 rfl (by rw [acells_size]; exact sizeE) ?_)
        | (refine wpList_load_part rfl 39 _ rfl (w.heap.size + 1 + 1) 0 rfl (flc a) _ (M2.at 2 rfl).whole Tryd.underlying39 rfl (by kernel_rfl) ?_)
        | (go_at_call 39; refine (HCO.out _ (S.out.later M2.below)).mono ?_; rintro e W3 ⟨rfl, hb⟩; have M3 := M2.call hb; clear hb)
        | (go_at_call 29; refine (codeOf_nil A _ (S.out.later M3.below)).mono ?_; rintro e W4 ⟨rfl, rfl⟩))
      go_ret2
      exact ⟨rfl, M3.below⟩
end Go.Proofs.YtaccpnpoeikaaaaDoor
