/-
  AllLoss: the program's.
-/
import Derived.Test.YtpiejcibjphffaaDoorLossIn
import Derived.Test.YtpiejcibjphffaaDoorPairL
namespace Go.Proofs.YtpiejcibjphffaaDoor
open Go Go.RowKit Go.Shelf

theorem totX_cells (f g : Fd) (l : List (CellOf f)) : totX f g (fun c : CellOf f => c.1) l = totL (lossN f g) l := rfl
theorem lossIn_cells (f g : Fd) (hf : f.Wf) (hg : g.Wf) (h0 : pairCode f g = 0) (b : Nat) (w : World) (B : Blk w b (fcells f) 30) :
    Calls Tryd.prog 41 #[.agg (pcells f g), .func (.func 86) #[] #[.pointer (some ⟨b, 0, none⟩)]] w fun e w' => e = .returned (.int .i64 (totTo (lossN f g) 100)) ∧ Below w.heap.size w w' := by
  obtain ⟨h1, h2, hs, _⟩ := pairCode_fine h0
  have hWs : inB f.W 1 10 = true := by simp only [okF, Bool.and_eq_true] at h1; exact h1.1.1
  have hHs : inB f.H 1 10 = true := by simp only [okF, Bool.and_eq_true] at h1; exact h1.1.2
  have e : totTo (lossN f g) 100 = totX f g (fun c : CellOf f => c.1) (cellsTo f 100) := by
    rw [totX_cells, totL_to (fun i hi hc => lossN_out h1 h2 hs hi hc) 100 (by omega)]
  rw [e]
  exact lossIn_gen (fun c : CellOf f => c.1) (fun c => isCell_lt c.2) 86 b (cellsTo f 100) _ f g hf hg (fun i hi => lossN_in h1 h2 hi) (enters_of Tryd.func86 (by kernel_rfl) rfl) w B.lt ⟨_, _, B⟩
    (fun W hW => cells_stops 2 b f (inB_size hWs) (inB_size hHs) W (B.below hW B.lt))

set_option maxRecDepth 100000 in
set_option maxHeartbeats 8000000 in
theorem implAllLoss (f g : Fd) (hf : f.Wf) (hg : g.Wf) (A : Nat → Addr) (w : World) (S0 : Sents w A) : Calls Tryd.prog 15 #[.agg (fcells f), .agg (fcells g)] w fun e w' => e = .returned (.tuple #[.int .i64 (lossSum f g), .int .i64 (pairCode f g)]) ∧ Below w.heap.size w w' := by
  unfold lossSum
  have S := Lib.hid S0
  clear S0
  have hif := isIfaceErr
  by_cases h : pairCode f g = 0
  · rw [if_pos h]
    have hp := Lib.hid h
    have HF := Lib.hid hf
    have HG := Lib.hid hg
    rw [h]
    clear h
    go_enter Tryd.func15, Tryd.ntmps15
    go_upto_region 1 with (fail)
    obtain ⟨W, hW, M⟩ := open2 w (fcells f) 30 (fcells g) 30
    rw [hW]; clear hW
    have ok1 : True := trivial
    have ok2 : True := trivial
    have hzp : Hid (Tryd.zeroCells67.size = 404) := Lib.hid (by rw [zeroP, pcells_size])
    go_upto_region 2 with (first
      | (clear ok1; (refine wpList_load_part rfl 30 _ rfl w.heap.size 0 rfl (fcells f) _ (M.at 0 rfl).whole Tryd.underlying30 rfl (by rw [fcells_size]; exact sizeFd) ?_))
      | (clear ok2; (refine wpList_load_part rfl 30 _ rfl (w.heap.size + 1) 0 rfl (fcells g) _ (M.at 1 rfl).whole Tryd.underlying30 rfl (by rw [fcells_size]; exact sizeFd) ?_))
      | (go_at_call 36; refine (pairOf_fine f g hf hg hp.out A _ (S.out.later M.below)).mono ?_; rintro e W2 ⟨rfl, hb⟩; have M2 := M.call hb; clear hb; have M3 := M2.alloc Tryd.zeroCells67 67)
      | (refine wpList_store_row rfl 67 _ _ rfl W2.heap.size (pcells f g) rfl rfl 67 _ (M3.at 2 rfl) (by rw [pcells_size]; exact sizeP) (by rw [pcells_size, hzp.out]) (pcells_one _ _) ?_))
    have M4 := M3.row 2 rfl (pcells f g)
    clear M M2 M3
    generalize World.setRow _ _ _ = W4 at M4 ⊢
    obtain ⟨b6, hb6⟩ : ∃ b6, b6 = W2.heap.size := ⟨_, rfl⟩
    rw [← hb6] at M4 ⊢
    clear hb6 hzp
    go_upto_region 4 with (fail)
    refine wp_region_rel (DL [dV (.agg (pcells f g)), dV (.agg (pcells f g)), dP (fun v lo _ w9 => v = .func (.func 86) #[] #[.pointer (some ⟨lo + 1, 0, none⟩)] ∧ Blk w9 (lo + 1) (fcells f) 30), dV (.int .i64 (totTo (lossN f g) 100)), dV (.int .i64 (totTo (lossN f g) 100)), dV (.int .i64 0)]) (fun w' => Mem w w' [⟨w.heap.size, fcells f, 30⟩, ⟨w.heap.size + 1, fcells g, 30⟩, ⟨b6, pcells f g, 67⟩]) (by kernel_rfl) (by kernel_rfl) grows_mem
      (stays_DL (fun d hd => by
        simp only [List.mem_cons, List.mem_nil_iff, or_false] at hd
        rcases hd with rfl | rfl | rfl | rfl | rfl | rfl <;> first | exact stay_V | exact stay_P)) M4.drew ?_
    refine rel_load 67 _ rfl b6 0 rfl (pcells f g) _ rfl rfl (fun w' hw' => (hw'.at 2 rfl).whole) Tryd.underlying67 rfl (by rw [pcells_size]; exact sizeP) (fun _ => ?_)
    simp only [Act.put, List.setIfInBounds_toArray, List.set_cons_zero, List.set_cons_succ]
    refine rel_load 67 _ rfl b6 0 rfl (pcells f g) _ rfl rfl (fun w' hw' => (hw'.at 2 rfl).whole) Tryd.underlying67 rfl (by rw [pcells_size]; exact sizeP) (fun _ => ?_)
    simp only [Act.put, List.setIfInBounds_toArray, List.set_cons_zero, List.set_cons_succ]
    refine rel_callP _ 38 #[.agg (pcells f g)] rfl rfl rfl rfl (enters_of Tryd.func38 (by kernel_rfl) rfl) (fun w' hw' => (pairCells_any f g w').mono (fun e w2 h => by
      obtain ⟨rfl, rfl⟩ := h
      refine ⟨_, rfl, ((Below.refl _ _).alloc (Nat.le_refl _) _).alloc (by simp) _, fun w3 hb3 => ⟨rfl, ?_⟩⟩
      have hB := Blk.new (w'.alloc (.cells (pcells f g) 67)) (fcells f) 30
      rw [World.size_alloc] at hB
      exact hB.later hb3)) (fun v lo hi hle hv => ?_)
    obtain ⟨_, _, rfl, _⟩ := hv
    simp only [Act.put, List.setIfInBounds_toArray, List.set_cons_zero, List.set_cons_succ]
    refine rel_callK 2 (.int .i64 (totTo (lossN f g) 100)) 41 #[.agg (pcells f g), .func (.func 86) #[] #[.pointer (some ⟨lo + 1, 0, none⟩)]] rfl rfl rfl rfl (enters_of Tryd.func41 (by kernel_rfl) rfl) rfl rfl rfl rfl (fun w' hw' hx => by
      exact lossIn_cells f g HF.out HG.out hp.out (lo + 1) w' hx.1.2) (fun _ => ?_)
    simp only [Act.put, List.setIfInBounds_toArray, List.set_cons_zero, List.set_cons_succ]
    refine rel_val _ rfl rfl (fun _ _ => rfl) (fun _ => ?_)
    simp only [Act.put, List.setIfInBounds_toArray, List.set_cons_zero, List.set_cons_succ]
    refine rel_val _ rfl rfl (fun _ _ => rfl) (fun _ => ?_)
    simp only [Act.put, List.setIfInBounds_toArray, List.set_cons_zero, List.set_cons_succ]
    refine rel_nil (fun W5 inv => ?_)
    have M5 := inv.cls
    clear inv M4
    obtain ⟨rv, hrv⟩ : ∃ x, totTo (lossN f g) 100 = x := ⟨_, rfl⟩
    rw [hrv]
    have HR := Lib.hid hrv
    clear hrv
    go_wp2_with fail
    go_ret2
    exact ⟨by rw [HR.out]; rfl, M5.below⟩
  · rw [if_neg h]
    obtain ⟨et, ev, hcall, hcode⟩ := pairOf_err f g hf hg h
    clear h
    go_enter Tryd.func15, Tryd.ntmps15
    go_upto_region 1 with (fail)
    obtain ⟨W, hW, M⟩ := open2 w (fcells f) 30 (fcells g) 30
    rw [hW]; clear hW
    have ok1 : True := trivial
    have ok2 : True := trivial
    have hzp : Hid (Tryd.zeroCells67.size = 404) := Lib.hid (by rw [zeroP, pcells_size])
    go_upto_region 2 with (first
      | (clear ok1; (refine wpList_load_part rfl 30 _ rfl w.heap.size 0 rfl (fcells f) _ (M.at 0 rfl).whole Tryd.underlying30 rfl (by rw [fcells_size]; exact sizeFd) ?_))
      | (clear ok2; (refine wpList_load_part rfl 30 _ rfl (w.heap.size + 1) 0 rfl (fcells g) _ (M.at 1 rfl).whole Tryd.underlying30 rfl (by rw [fcells_size]; exact sizeFd) ?_))
      | (go_at_call 36; refine (hcall A _ (S.out.later M.below)).mono ?_; rintro e W2 ⟨rfl, hb⟩; have M2 := M.call hb; clear hb; have M3 := M2.alloc Tryd.zeroCells67 67)
      | (refine wpList_store_row rfl 67 _ _ rfl W2.heap.size (pcells Fd.zero Fd.zero) rfl rfl 67 _ (M3.at 2 rfl) (by rw [pcells_size]; exact sizeP) (by rw [pcells_size, hzp.out]) (pcells_one _ _) ?_))
    have M4 := M3.row 2 rfl (pcells Fd.zero Fd.zero)
    clear M M2 M3
    generalize World.setRow _ _ _ = W4 at M4 ⊢
    obtain ⟨b6, hb6⟩ : ∃ b6, b6 = W2.heap.size := ⟨_, rfl⟩
    rw [← hb6] at M4 ⊢
    clear hb6 hzp
    go_wp2_with (go_at_call 37; refine (hcode A _ (S.out.later M4.below)).mono ?_; rintro e W5 ⟨rfl, hb⟩; have M5 := M4.call hb; clear hb)
    go_ret2
    exact ⟨rfl, M5.below⟩
end Go.Proofs.YtpiejcibjphffaaDoor
