/-
  GuessLoss: the program's.
-/
import Derived.Test.YtpiejcibjphffaaDoorGuM
namespace Go.Proofs.YtpiejcibjphffaaDoor
open Go Go.RowKit Go.Shelf
attribute [local go_sem] Oper.semAt_some

set_option maxRecDepth 100000 in
set_option maxHeartbeats 8000000 in
theorem implGuessLoss (f g : Fd) (hf : f.Wf) (hg : g.Wf) (c : Nat → Int) (hcu : U64 c) (A : Nat → Addr) (w : World) (S0 : Sents w A) : Calls Tryd.prog 29 #[.agg (fcells f), .agg (fcells g), .agg (acells .u64 2 c)] w fun e w' => e = .returned (.tuple #[.int .i64 (guessVal f g c), .int .i64 (guessCode f g c)]) ∧ Below w.heap.size w w' := by
  have S := Lib.hid S0
  clear S0
  have hif := isIfaceErr
  by_cases h0 : pairCode f g = 0
  · have hp := Lib.hid h0
    have HF := Lib.hid hf
    have HG := Lib.hid hg
    obtain ⟨h1, _, _, _⟩ := pairCode_fine h0
    clear h0
    have hkc : Hid (kindCode f 0 = 0) := Lib.hid (by simp [kindCode, h1, inB])
    have hks0 : cellsOfKind f 0 = kindSet f 0 100 := by simp [cellsOfKind, kindOk, h1, inB]
    have hU0 := (soilSet f 100 (by omega)).1.1
    have hn0 := soil_count f
    have hm0 := look_count f hcu
    have hl0 := look_loss f g hcu
    have hN0 := look_N100 f hcu
    have hop0 := opC_join hN0
    have hno0 := look_none f hcu
    obtain ⟨L, hL0⟩ : ∃ x, totTo (lookL f g c) 100 = x := ⟨_, rfl⟩
    obtain ⟨N, hN0'⟩ : ∃ x, totTo (soilN f) 100 = x := ⟨_, rfl⟩
    obtain ⟨K9, hM0⟩ : ∃ x, totTo (lookN f c) 100 = x := ⟨_, rfl⟩
    rw [hL0] at hl0
    rw [hN0'] at hn0
    rw [hM0] at hm0 hno0
    have hL := Lib.hid hL0
    have hN := Lib.hid hN0'
    have hM := Lib.hid hM0
    clear hL0 hN0' hM0 h1
    have heq := Lib.hid (run_eqC _ (fun _ => 0) hN0.1 zero_N100.1 (decide (K9 = 0)) hno0)
    obtain ⟨so, hso⟩ : ∃ s, kindSet f 0 100 = s := ⟨_, rfl⟩
    rw [hso] at hks0 hU0 hn0 hm0 hl0 hN0 hop0 heq
    clear hno0 hso
    obtain ⟨lk, hlk⟩ : ∃ s, joinC .and so c = s := ⟨_, rfl⟩
    rw [hlk] at hm0 hl0 hN0 hop0 heq
    clear hlk
    have hks := Lib.hid hks0
    have hsoU := Lib.hid hU0
    have hsoN := Lib.hid hn0
    have hlkU := Lib.hid hN0.1
    have hlkM := Lib.hid hm0
    have hLL := Lib.hid hl0
    have hop := Lib.hid hop0
    clear hks0 hU0 hn0 hN0 hm0 hl0 hop0
    obtain ⟨P9, hP0⟩ : ∃ x, wrap64 (L * N) = x := ⟨_, rfl⟩
    obtain ⟨Q9, hQ0⟩ : ∃ x, wrap64 (P9.tdiv K9) = x := ⟨_, rfl⟩
    have hQg := Lib.hid (show guessQ L N K9 = Q9 by unfold guessQ; rw [hP0, hQ0])
    have hP9 := Lib.hid (show IntKind.i64.wrap (L * N) = P9 by
      have e := hP0
      unfold wrap64 at e
      rw [IntKind.wrap_i64]; exact e)
    have hQ9 := Lib.hid (show IntKind.i64.wrap (P9.tdiv K9) = Q9 by
      have e := hQ0
      unfold wrap64 at e
      rw [IntKind.wrap_i64]; exact e)
    clear hP0 hQ0
    go_enter Tryd.func29, Tryd.ntmps29
    go_upto_region 1 with (fail)
    obtain ⟨W, hW, M⟩ := open3 w (fcells f) 30 (fcells g) 30 (acells .u64 2 c) 38
    rw [hW]; clear hW
    have ok1 : True := trivial
    have ok2 : True := trivial
    have hzp : Hid (Tryd.zeroCells67.size = 404) := Lib.hid (by rw [zeroP, pcells_size])
    go_upto_region 2 with (first
      | (clear ok1; (refine wpList_load_part rfl 30 _ rfl w.heap.size 0 rfl (fcells f) _ (M.at 0 rfl).whole Tryd.underlying30 rfl (by rw [fcells_size]; exact sizeFd) ?_))
      | (clear ok2; (refine wpList_load_part rfl 30 _ rfl (w.heap.size + 1) 0 rfl (fcells g) _ (M.at 1 rfl).whole Tryd.underlying30 rfl (by rw [fcells_size]; exact sizeFd) ?_))
      | (go_at_call 36; refine (pairOf_fine f g hf hg hp.out A _ (S.out.later M.below)).mono ?_; rintro e W2 ⟨rfl, hb⟩; have M2 := M.call hb; clear hb; have M3 := M2.alloc Tryd.zeroCells67 67)
      | (refine wpList_store_row rfl 67 _ _ rfl W2.heap.size (pcells f g) rfl rfl 67 _ (M3.at 3 rfl) (by rw [pcells_size]; exact sizeP) (by rw [pcells_size, hzp.out]) (pcells_one _ _) ?_))
    have M4 := M3.row 3 rfl (pcells f g)
    clear M M2 M3
    generalize World.setRow _ _ _ = W4 at M4 ⊢
    obtain ⟨b6, hb6⟩ : ∃ b6, b6 = W2.heap.size := ⟨_, rfl⟩
    rw [← hb6] at M4 ⊢
    clear hb6 hzp
    go_upto_region 5 with (first
      | (refine wpList_load_part rfl 30 _ rfl w.heap.size 0 rfl (fcells f) _ (M4.at 0 rfl).whole Tryd.underlying30 rfl (by rw [fcells_size]; exact sizeFd) ?_)
      | (go_at_call 56; refine (implCellsOfKind f HF.out 0 (by omega) (by omega) A _ (S.out.later M4.below)).mono ?_; rintro e W5 ⟨rfl, hb⟩; rw [hks.out, hkc.out]; have M5 := M4.call hb; clear hb; have M6 := M5.alloc #[.int .u64 0, .int .u64 0] 38)
      | (refine wpList_store_row rfl 38 _ _ rfl W5.heap.size (acells .u64 2 so) rfl rfl 38 _ (M6.at 4 rfl) (by rw [acells_size]; exact sizeC) (by rw [acells_size]; rfl) (acells_one _ _ _) ?_))
    have M7 := M6.row 4 rfl (acells .u64 2 so)
    clear M4 M5 M6
    generalize World.setRow _ _ _ = W7 at M7 ⊢
    obtain ⟨b10, hb10⟩ : ∃ b, b = W5.heap.size := ⟨_, rfl⟩
    rw [← hb10] at M7 ⊢
    clear hb10
    have ok3 : True := trivial
    have ok4 : True := trivial
    go_upto_region 6 with (first
      | (clear ok3; refine wpList_load_part rfl 38 _ rfl b10 0 rfl (acells .u64 2 so) _ (M7.at 4 rfl).whole Tryd.underlying38 rfl (by rw [acells_size]; exact sizeC) ?_)
      | (clear ok4; refine wpList_load_part rfl 38 _ rfl (w.heap.size + 1 + 1) 0 rfl (acells .u64 2 c) _ (M7.at 2 rfl).whole Tryd.underlying38 rfl (by rw [acells_size]; exact sizeC) ?_)
      | (go_at_call 57; refine (implBothOf so c _).mono ?_; rintro e W8 ⟨rfl, hb⟩; rw [hop.out]; have M8 := M7.call hb; clear hb; have M9 := M8.alloc #[.int .u64 0, .int .u64 0] 38)
      | (refine wpList_store_row rfl 38 _ _ rfl W8.heap.size (acells .u64 2 lk) rfl rfl 38 _ (M9.at 5 rfl) (by rw [acells_size]; exact sizeC) (by rw [acells_size]; rfl) (acells_one _ _ _) ?_))
    have M10 := M9.row 5 rfl (acells .u64 2 lk)
    clear M7 M8 M9
    generalize World.setRow _ _ _ = W10 at M10 ⊢
    obtain ⟨b12, hb12⟩ : ∃ b, b = W8.heap.size := ⟨_, rfl⟩
    rw [← hb12] at M10 ⊢
    clear hb12
    by_cases hne : K9 = 0
    · have hq : decide (K9 = 0) = true := by simpa using hne
      rw [hq] at heq
      have hne' := Lib.hid hne
      clear hne hq
      have c6 := (S.out.later M10.below).v6
      go_wp2_with (first
        | (refine wpList_load_part rfl 38 _ rfl b12 0 rfl (acells .u64 2 lk) _ (M10.at 5 rfl).whole Tryd.underlying38 rfl (by rw [acells_size]; exact sizeC) ?_)
        | (refine wpList_build0 rfl 38 rfl _ (bZeroC _) ?_; rw [zero2])
        | (refine wpList_eql rfl 38 _ _ _ rfl (acells .u64 2 lk) (acells .u64 2 (fun _ => 0)) rfl rfl (by kernel_rfl) true (heq.out _) ?_)
        | (go_at_call 37; refine (codeOf_err A 6 (by omega) (by omega) _ (S.out.later M10.below)).mono ?_; rintro e W3 ⟨rfl, rfl⟩))
      go_ret2
      exact ⟨by rw [(guess_none hp.out (hM.out.trans hne'.out)).1, (guess_none hp.out (hM.out.trans hne'.out)).2]; rfl, M10.below⟩
    · have hq : decide (K9 = 0) = false := by simpa using hne
      rw [hq] at heq
      have hne' : K9 ≠ 0 := hne
      clear hq
      go_upto_region 8 with (first
        | (refine wpList_load_part rfl 38 _ rfl b12 0 rfl (acells .u64 2 lk) _ (M10.at 5 rfl).whole Tryd.underlying38 rfl (by rw [acells_size]; exact sizeC) ?_)
        | (refine wpList_build0 rfl 38 rfl _ (bZeroC _) ?_; rw [zero2])
        | (refine wpList_eql rfl 38 _ _ _ rfl (acells .u64 2 lk) (acells .u64 2 (fun _ => 0)) rfl rfl (by kernel_rfl) false (heq.out _) ?_))
      refine wp_region_rel (DL [dV (.agg (pcells f g)), dV (.agg (acells .u64 2 lk)), dP (fun v lo _ w9 => v = .func (.func 78) #[] #[.pointer (some ⟨lo, 0, none⟩)] ∧ Blk w9 lo (acells .u64 2 lk) 38), dV (.int .i64 L), dV (.agg (acells .u64 2 so)), dV (.int .i64 N), dV (.int .i64 P9), dV (.agg (acells .u64 2 lk)), dV (.int .i64 K9), dV (.int .i64 Q9), dV (.int .i64 0), dV (.int .i64 Q9), dV (.int .i64 0)]) (fun w' => Mem w w' [⟨w.heap.size, fcells f, 30⟩, ⟨w.heap.size + 1, fcells g, 30⟩, ⟨w.heap.size + 1 + 1, acells .u64 2 c, 38⟩, ⟨b6, pcells f g, 67⟩, ⟨b10, acells .u64 2 so, 38⟩, ⟨b12, acells .u64 2 lk, 38⟩]) (by kernel_rfl) (by kernel_rfl) grows_mem
        (stays_DL (fun d hd => by
          simp only [List.mem_cons, List.mem_nil_iff, or_false] at hd
          rcases hd with rfl | rfl | rfl | rfl | rfl | rfl | rfl | rfl | rfl | rfl | rfl | rfl | rfl <;> first | exact stay_V | exact stay_P)) M10.drew ?_
      refine rel_load 67 _ rfl b6 0 rfl (pcells f g) _ rfl rfl (fun w' hw' => (hw'.at 3 rfl).whole) Tryd.underlying67 rfl (by rw [pcells_size]; exact sizeP) (fun _ => ?_)
      simp only [Act.put, List.setIfInBounds_toArray, List.set_cons_zero, List.set_cons_succ]
      refine rel_load 38 _ rfl b12 0 rfl (acells .u64 2 lk) _ rfl rfl (fun w' hw' => (hw'.at 5 rfl).whole) Tryd.underlying38 rfl (by rw [acells_size]; exact sizeC) (fun _ => ?_)
      simp only [Act.put, List.setIfInBounds_toArray, List.set_cons_zero, List.set_cons_succ]
      refine rel_callP _ 58 #[.agg (acells .u64 2 lk)] rfl rfl rfl rfl (enters_of Tryd.func58 (by kernel_rfl) rfl) (fun w' hw' => (numbersIn_any lk w').mono (fun e w2 h => by
        obtain ⟨rfl, rfl⟩ := h
        refine ⟨_, rfl, (Below.refl _ _).alloc (Nat.le_refl _) _, fun w3 hb3 => ⟨rfl, ?_⟩⟩
        exact (Blk.new w' (acells .u64 2 lk) 38).later hb3)) (fun v lo hi hle hv => ?_)
      obtain ⟨_, _, rfl, _⟩ := hv
      simp only [Act.put, List.setIfInBounds_toArray, List.set_cons_zero, List.set_cons_succ]
      refine rel_callK 2 (.int .i64 L) 41 #[.agg (pcells f g), .func (.func 78) #[] #[.pointer (some ⟨lo, 0, none⟩)]] rfl rfl rfl rfl (enters_of Tryd.func41 (by kernel_rfl) rfl) rfl rfl rfl rfl (fun w' hw' hx => by
        rw [← hLL.out]
        exact lossIn_nums f g HF.out HG.out hp.out lk lo w' hx.1.2) (fun _ => ?_)
      simp only [Act.put, List.setIfInBounds_toArray, List.set_cons_zero, List.set_cons_succ]
      refine rel_load 38 _ rfl b10 0 rfl (acells .u64 2 so) _ rfl rfl (fun w' hw' => (hw'.at 4 rfl).whole) Tryd.underlying38 rfl (by rw [acells_size]; exact sizeC) (fun _ => ?_)
      simp only [Act.put, List.setIfInBounds_toArray, List.set_cons_zero, List.set_cons_succ]
      refine rel_call (.int .i64 N) 59 #[.agg (acells .u64 2 so)] rfl rfl rfl rfl (enters_of Tryd.func59 (by kernel_rfl) rfl) (fun w' _ => (countCells_any so (wf_of_u64 hsoU.out) w').mono (fun e w2 h => ⟨by rw [h.1, hsoN.out], h.2⟩)) (fun _ => ?_)
      simp only [Act.put, List.setIfInBounds_toArray, List.set_cons_zero, List.set_cons_succ]
      refine rel_val (.int .i64 P9) rfl rfl (fun w' _ => by simp [execOp, Act.eval, go_sem, hP9.out]) (fun _ => ?_)
      simp only [Act.put, List.setIfInBounds_toArray, List.set_cons_zero, List.set_cons_succ]
      refine rel_load 38 _ rfl b12 0 rfl (acells .u64 2 lk) _ rfl rfl (fun w' hw' => (hw'.at 5 rfl).whole) Tryd.underlying38 rfl (by rw [acells_size]; exact sizeC) (fun _ => ?_)
      simp only [Act.put, List.setIfInBounds_toArray, List.set_cons_zero, List.set_cons_succ]
      refine rel_call (.int .i64 K9) 59 #[.agg (acells .u64 2 lk)] rfl rfl rfl rfl (enters_of Tryd.func59 (by kernel_rfl) rfl) (fun w' _ => (countCells_any lk (wf_of_u64 hlkU.out) w').mono (fun e w2 h => ⟨by rw [h.1, hlkM.out], h.2⟩)) (fun _ => ?_)
      simp only [Act.put, List.setIfInBounds_toArray, List.set_cons_zero, List.set_cons_succ]
      refine rel_val (.int .i64 Q9) rfl rfl (fun w' _ => by simp [execOp, Act.eval, go_sem, hne, hQ9.out]) (fun _ => ?_)
      simp only [Act.put, List.setIfInBounds_toArray, List.set_cons_zero, List.set_cons_succ]
      refine rel_val _ rfl rfl (fun _ _ => rfl) (fun _ => ?_)
      simp only [Act.put, List.setIfInBounds_toArray, List.set_cons_zero, List.set_cons_succ]
      refine rel_val _ rfl rfl (fun _ _ => rfl) (fun _ => ?_)
      simp only [Act.put, List.setIfInBounds_toArray, List.set_cons_zero, List.set_cons_succ]
      refine rel_val _ rfl rfl (fun _ _ => rfl) (fun _ => ?_)
      simp only [Act.put, List.setIfInBounds_toArray, List.set_cons_zero, List.set_cons_succ]
      refine rel_nil (fun W11 inv => ?_)
      have M11 := inv.cls
      clear inv M10
      go_wp2_with fail
      go_ret2
      exact ⟨by rw [(guess_some hp.out (by rw [hM.out]; exact hne')).1, (guess_some hp.out (by rw [hM.out]; exact hne')).2, hL.out, hN.out, hM.out, hQg.out]; rfl, M11.below⟩
  · rw [(guess_bad h0).1, (guess_bad h0).2]
    obtain ⟨et, ev, hcall, hcode⟩ := pairOf_err f g hf hg h0
    clear h0
    go_enter Tryd.func29, Tryd.ntmps29
    go_upto_region 1 with (fail)
    obtain ⟨W, hW, M⟩ := open3 w (fcells f) 30 (fcells g) 30 (acells .u64 2 c) 38
    rw [hW]; clear hW
    have ok1 : True := trivial
    have ok2 : True := trivial
    have hzp : Hid (Tryd.zeroCells67.size = 404) := Lib.hid (by rw [zeroP, pcells_size])
    go_upto_region 2 with (first
      | (clear ok1; (refine wpList_load_part rfl 30 _ rfl w.heap.size 0 rfl (fcells f) _ (M.at 0 rfl).whole Tryd.underlying30 rfl (by rw [fcells_size]; exact sizeFd) ?_))
      | (clear ok2; (refine wpList_load_part rfl 30 _ rfl (w.heap.size + 1) 0 rfl (fcells g) _ (M.at 1 rfl).whole Tryd.underlying30 rfl (by rw [fcells_size]; exact sizeFd) ?_))
      | (go_at_call 36; refine (hcall A _ (S.out.later M.below)).mono ?_; rintro e W2 ⟨rfl, hb⟩; have M2 := M.call hb; clear hb; have M3 := M2.alloc Tryd.zeroCells67 67)
      | (refine wpList_store_row rfl 67 _ _ rfl W2.heap.size (pcells Fd.zero Fd.zero) rfl rfl 67 _ (M3.at 3 rfl) (by rw [pcells_size]; exact sizeP) (by rw [pcells_size, hzp.out]) (pcells_one _ _) ?_))
    have M4 := M3.row 3 rfl (pcells Fd.zero Fd.zero)
    clear M M2 M3
    generalize World.setRow _ _ _ = W4 at M4 ⊢
    obtain ⟨b6, hb6⟩ : ∃ b6, b6 = W2.heap.size := ⟨_, rfl⟩
    rw [← hb6] at M4 ⊢
    clear hb6 hzp
    go_wp2_with (go_at_call 37; refine (hcode A _ (S.out.later M4.below)).mono ?_; rintro e W5 ⟨rfl, hb⟩; have M5 := M4.call hb; clear hb)
    go_ret2
    exact ⟨rfl, M5.below⟩
end Go.Proofs.YtpiejcibjphffaaDoor
