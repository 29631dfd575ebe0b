/-
  TwiceCovered: the model's, the program's.
-/
import Derived.Test.YtkhhkacmfkipgaaDoorNetJ
namespace Go.Proofs.YtkhhkacmfkipgaaDoor
open Go Go.RowKit

theorem mem_drop4 {w0 w : World} {a b c d e : Ent} (H : Mem w0 w [a, b, c, d, e]) : Mem w0 w [a, b, c, d] := ⟨H.below, (fun i x h => by
  match i, h with
  | 0, h => exact H.blk 0 x h
  | 1, h => exact H.blk 1 x h
  | 2, h => exact H.blk 2 x h
  | 3, h => exact H.blk 3 x h), (fun i j x y hx hy hij => by
  have key : ∀ (i : Nat) (x : Ent), [a, b, c, d][i]? = some x → [a, b, c, d, e][i]? = some x := fun i x h => by
    match i, h with
    | 0, h => exact h
    | 1, h => exact h
    | 2, h => exact h
    | 3, h => exact h
  exact H.apart i j x y (key i x hx) (key j y hy) hij)⟩
set_option maxRecDepth 100000 in
set_option maxHeartbeats 8000000 in
theorem specTwiceCovered (f : Fd) (hf : f.Wf) (n : Nat) (hn : n ≤ 2 ^ 40) (F : Nat → Nat → Int) (hF : ∀ i, i < n → WfN (F i)) (b o c : Nat) (w : World) (I : InS w b o n ksNet F) :
    Calls Tryd.prog 27 #[.agg (fcells f), .slice (some ⟨b, o, none⟩) n c] w fun e w' => e = .returned (.tuple #[.agg (acells .u64 2 (ans (netsCode f n F) (twi F n))), .int .i64 (netsCode f n F)]) ∧ Below w.heap.size w w' := by
  have HI := Lib.hid I
  clear I
  have bad : ∀ code : Int, netsCode f n F = code → code ≠ 0 → Calls Tryd.prog 27 #[.agg (fcells f), .slice (some ⟨b, o, none⟩) n c] w fun e w' => e = .returned (.tuple #[.agg (acells .u64 2 (fun _ => 0)), .int .i64 code]) ∧ Below w.heap.size w w' := by
    intro code hcode hne
    have hc := Lib.hid hcode
    have hne2 : (code != 0) = true := by simpa using hne
    clear hcode
    go_enter Tryd.func27, Tryd.ntmps27
    go_upto_region 1 with (fail)
    rw [zero2]
    obtain ⟨W, hW, M⟩ := open2 w (fcells f) 32 (acells .u64 2 (fun _ => 0)) 39
    rw [hW]; clear hW
    go_wp2_with (first
      | (go_at_call 40; refine (l04Nets_some f hf n hn F hF b o c w.heap.size _ (M.at 0 rfl) (HI.out.later M.below)).mono ?_; rintro e W2 ⟨rfl, hb⟩; rw [hc.out]; have M2 := M.call hb)
      | (refine wpList_store_row rfl 39 _ _ rfl (w.heap.size + 1) (acells .u64 2 (fun _ => 0)) rfl rfl 39 _ (M2.at 1 rfl) (by rw [acells_size]; exact sizeC) (by simp only [acells_size]) (acells_one _ _ _) ?_))
    have M3 := M2.row 1 rfl (acells .u64 2 (fun _ => 0))
    exact bodyPost_ret (results_row_tmp rfl _ _ (w.heap.size + 1) 39 _ _ _ rfl (M3.at 1 rfl) Tryd.underlying39 rfl (by rw [acells_size]; exact sizeC)) rfl ⟨rfl, M3.below⟩
  rcases code_three f n F with hc | hc | hc
  · obtain ⟨hok, hns, _⟩ := code_0 hc
    have HF := Lib.hid (code_fits hok hns)
    rw [hc, ans_0]
    have hc := Lib.hid hc
    clear bad
    go_enter Tryd.func27, Tryd.ntmps27
    go_upto_region 1 with (fail)
    rw [zero2]
    obtain ⟨W, hW, M⟩ := open2 w (fcells f) 32 (acells .u64 2 (fun _ => 0)) 39
    rw [hW]; clear hW
    go_upto_region 6 with (go_at_call 40; refine (l04Nets_some f hf n hn F hF b o c w.heap.size _ (M.at 0 rfl) (HI.out.later M.below)).mono ?_; rintro e W2 ⟨rfl, hb⟩; rw [hc.out]; have M2 := M.call hb; clear M)
    have M3 := (M2.alloc #[.int .u64 0, .int .u64 0] 39).alloc #[.int .u64 0, .int .u64 0] 39
    rw [World.size_alloc] at M3
    obtain ⟨ob, hob⟩ : ∃ ob, W2.heap.size = ob := ⟨_, rfl⟩
    obtain ⟨tb, htb⟩ : ∃ tb, W2.heap.size + 1 = tb := ⟨_, rfl⟩
    rw [htb, hob] at M3
    have M0 : Hid (Mem w ((W2.alloc (.cells #[.int .u64 0, .int .u64 0] 39)).alloc (.cells #[.int .u64 0, .int .u64 0] 39)) [⟨w.heap.size, fcells f, 32⟩, ⟨w.heap.size + 1, acells .u64 2 (fun _ => 0), 39⟩, ⟨ob, acells .u64 2 (cov F 0), 39⟩, ⟨tb, acells .u64 2 (twi F 0), 39⟩]) := Lib.hid M3
    (try rw [htb])
    (try rw [hob])
    clear M2 M3 hb
    generalize (W2.alloc _).alloc _ = W3 at M0 ⊢
    go_wp2_with fail
    go_loopw [9] (fun i wr => ∃ k : Nat, k ≤ n ∧ i = .int .i64 k ∧ Hid (Mem w wr [⟨w.heap.size, fcells f, 32⟩, ⟨w.heap.size + 1, acells .u64 2 (fun _ => 0), 39⟩, ⟨ob, acells .u64 2 (cov F k), 39⟩, ⟨tb, acells .u64 2 (twi F k), 39⟩])) (fun i _ => n - (intOf i).toNat)
    case atStart => exact ⟨0, by omega, rfl, M0⟩
    case round =>
      clear M0
      obtain ⟨k, hk, rfl, hM⟩ := hrel
      by_cases hlt : k < n
      · have hr : wr.rangeAt b (o + k * 4) (#[.int .i8 (F k 0), .int .i8 (F k 1), .int .i8 (F k 2), .int .i8 (F k 3)] : Array Value).toList := HI.out.elem (ks := ksNet) (by decide) hM.out.below hlt
        have hfit := HF.out k hlt
        have hcov : Hid (cov F (k + 1) = joinC .or (cov F k) (undA (F k))) := Lib.hid rfl
        have htwi : Hid (twi F (k + 1) = joinC .or (twi F k) (joinC .and (cov F k) (undA (F k)))) := Lib.hid rfl
        go_upto_region 10 with (first
          | (refine wpList_load_part rfl 34 _ rfl b (o + k * 4) rfl #[.int .i8 (F k 0), .int .i8 (F k 1), .int .i8 (F k 2), .int .i8 (F k 3)] _ hr Tryd.underlying34 rfl (by kernel_rfl) ?_)
          | (go_at_call 39; refine (l04Under_any (F k) hfit _).mono ?_; rintro e W5 ⟨rfl, hb5⟩; have M5 := hM.out.call hb5; have M6 := M5.alloc #[.int .u64 0, .int .u64 0] 39)
          | (refine wpList_store_row rfl 39 _ _ rfl W5.heap.size (acells .u64 2 (undA (F k))) rfl rfl 39 _ (M6.at 4 rfl) (by rw [acells_size]; exact sizeC) (by rw [acells_size]; rfl) (acells_one _ _ _) ?_))
        have M7 := M6.row 4 rfl (acells .u64 2 (undA (F k)))
        obtain ⟨pb, hpb⟩ : ∃ pb, W5.heap.size = pb := ⟨_, rfl⟩
        rw [hpb] at M7 ⊢
        generalize World.setRow _ _ _ = W7 at M7 ⊢
        have M8 : Mem w W7 [⟨w.heap.size, fcells f, 32⟩, ⟨w.heap.size + 1, acells .u64 2 (fun _ => 0), 39⟩, ⟨ob, acells .u64 2 (cov F k), 39⟩, ⟨tb, acells .u64 2 (twi F k), 39⟩, ⟨pb, acells .u64 2 (undA (F k)), 39⟩] := M7
        clear M5 M6 M7 hb5 hM hr
        refine wp_region_rel_tail 5 (DL [dV (.agg (acells .u64 2 (twi F k))), dV (.agg (acells .u64 2 (cov F k))), dV (.agg (acells .u64 2 (undA (F k)))), dV (.agg (acells .u64 2 (joinC .and (cov F k) (undA (F k))))), dV (.agg (acells .u64 2 (joinC .or (twi F k) (joinC .and (cov F k) (undA (F k))))))]) (fun w' => Mem w w' [⟨w.heap.size, fcells f, 32⟩, ⟨w.heap.size + 1, acells .u64 2 (fun _ => 0), 39⟩, ⟨ob, acells .u64 2 (cov F k), 39⟩, ⟨tb, acells .u64 2 (twi F k), 39⟩, ⟨pb, acells .u64 2 (undA (F k)), 39⟩]) (by kernel_rfl) (by kernel_rfl) grows_mem
          (stays_DL (fun d hd => by
            simp only [List.mem_cons, List.mem_nil_iff, or_false] at hd
            rcases hd with rfl | rfl | rfl | rfl | rfl <;> exact stay_V)) M8.drew ?_
        refine rel_load 39 _ rfl tb 0 rfl (acells .u64 2 (twi F k)) _ rfl rfl (fun w' hw' => (hw'.at 3 rfl).whole) Tryd.underlying39 rfl (by rw [acells_size]; exact sizeC) (fun _ => ?_)
        simp only [Act.put, List.setIfInBounds_toArray, List.set_cons_zero, List.set_cons_succ]
        refine rel_load 39 _ rfl ob 0 rfl (acells .u64 2 (cov F k)) _ rfl rfl (fun w' hw' => (hw'.at 2 rfl).whole) Tryd.underlying39 rfl (by rw [acells_size]; exact sizeC) (fun _ => ?_)
        simp only [Act.put, List.setIfInBounds_toArray, List.set_cons_zero, List.set_cons_succ]
        refine rel_load 39 _ rfl pb 0 rfl (acells .u64 2 (undA (F k))) _ rfl rfl (fun w' hw' => (hw'.at 4 rfl).whole) Tryd.underlying39 rfl (by rw [acells_size]; exact sizeC) (fun _ => ?_)
        simp only [Act.put, List.setIfInBounds_toArray, List.set_cons_zero, List.set_cons_succ]
        refine rel_call (.agg (acells .u64 2 (joinC .and (cov F k) (undA (F k))))) 49 #[.agg (acells .u64 2 (cov F k)), .agg (acells .u64 2 (undA (F k)))] rfl rfl rfl rfl (enters_of Tryd.func49 (by kernel_rfl) rfl) (fun w' _ => l04Meet_any _ _ w') (fun _ => ?_)
        simp only [Act.put, List.setIfInBounds_toArray, List.set_cons_zero, List.set_cons_succ]
        refine rel_call (.agg (acells .u64 2 (joinC .or (twi F k) (joinC .and (cov F k) (undA (F k)))))) 48 #[.agg (acells .u64 2 (twi F k)), .agg (acells .u64 2 (joinC .and (cov F k) (undA (F k))))] rfl rfl rfl rfl (enters_of Tryd.func48 (by kernel_rfl) rfl) (fun w' _ => l04Join_any _ _ w') (fun _ => ?_)
        simp only [Act.put, List.setIfInBounds_toArray, List.set_cons_zero, List.set_cons_succ]
        refine rel_nil (fun W8 inv => ?_)
        have M9 := inv.cls
        clear inv M8
        change wpList _ _ _ (_ :: []) _ _
        refine wpList_store_row rfl 39 _ _ rfl tb (acells .u64 2 (joinC .or (twi F k) (joinC .and (cov F k) (undA (F k))))) rfl rfl 39 _ (M9.at 3 rfl) (by rw [acells_size]; exact sizeC) (by simp only [acells_size]) (acells_one _ _ _) ?_
        have M10 := M9.row 3 rfl (acells .u64 2 (joinC .or (twi F k) (joinC .and (cov F k) (undA (F k)))))
        clear M9
        generalize World.setRow _ _ _ = W9 at M10 ⊢
        go_wp2_with (first
          | (go_at_call 48; refine (l04Join_any _ _ _).mono ?_; rintro e W10 ⟨rfl, hb⟩; have M11 := M10.call hb; clear M10; go_wp2_with (refine wpList_store_row rfl 39 _ _ rfl ob (acells .u64 2 (joinC .or (cov F k) (undA (F k)))) rfl rfl 39 _ (M11.at 2 rfl) (by rw [acells_size]; exact sizeC) (by simp only [acells_size]) (acells_one _ _ _) ?_))
          | (refine wpList_load_part rfl 39 _ rfl ob 0 rfl (acells .u64 2 (cov F k)) _ (M10.at 2 rfl).whole Tryd.underlying39 rfl (by rw [acells_size]; exact sizeC) ?_)
          | (refine wpList_load_part rfl 39 _ rfl pb 0 rfl (acells .u64 2 (undA (F k))) _ (M10.at 4 rfl).whole Tryd.underlying39 rfl (by rw [acells_size]; exact sizeC) ?_))
        have M12 := M11.row 2 rfl (acells .u64 2 (joinC .or (cov F k) (undA (F k))))
        generalize World.setRow _ _ _ = W11 at M12 ⊢
        have M13 : Mem w W11 [⟨w.heap.size, fcells f, 32⟩, ⟨w.heap.size + 1, acells .u64 2 (fun _ => 0), 39⟩, ⟨ob, acells .u64 2 (joinC .or (cov F k) (undA (F k))), 39⟩, ⟨tb, acells .u64 2 (joinC .or (twi F k) (joinC .and (cov F k) (undA (F k)))), 39⟩] := mem_drop4 M12
        go_roundw
        case rel => exact ⟨k + 1, by omega, by go_num, by rw [hcov.out, htwi.out]; exact Lib.hid M13⟩
        case measure => simp [intOf]; omega
      · obtain rfl : k = n := by omega
        have M9 := hM.out
        go_wp2_with (first
          | (refine wpList_load_part rfl 39 _ rfl tb 0 rfl (acells .u64 2 (twi F k)) _ (M9.at 3 rfl).whole Tryd.underlying39 rfl (by rw [acells_size]; exact sizeC) ?_)
          | (refine wpList_store_row rfl 39 _ _ rfl (w.heap.size + 1) (acells .u64 2 (twi F k)) rfl rfl 39 _ (M9.at 1 rfl) (by rw [acells_size]; exact sizeC) (by simp only [acells_size]) (acells_one _ _ _) ?_))
        have M4 := M9.row 1 rfl (acells .u64 2 (twi F k))
        exact bodyPost_ret (results_row_tmp rfl _ _ (w.heap.size + 1) 39 _ _ _ rfl (M4.at 1 rfl) Tryd.underlying39 rfl (by rw [acells_size]; exact sizeC)) rfl ⟨rfl, M4.below⟩
  · rw [hc, ans_1]; exact bad 1 hc (by omega)
  · rw [hc, ans_3]; exact bad 3 hc (by omega)
set_option maxRecDepth 100000 in
set_option maxHeartbeats 4000000 in
theorem implTwiceCovered (f : Fd) (hf : f.Wf) (n : Nat) (hn : n ≤ 2 ^ 40) (F : Nat → Nat → Int) (hF : ∀ i, i < n → WfN (F i)) (b o c : Nat) (A : Nat → Addr) (w : World) (I : InS w b o n ksNet F) (S0 : Sents w A) :
    Calls Tryd.prog 28 #[.agg (fcells f), .slice (some ⟨b, o, none⟩) n c] w fun e w' => e = .returned (.tuple #[.agg (acells .u64 2 (ans (netsCode f n F) (twi F n))), .int .i64 (netsCode f n F)]) ∧ Below w.heap.size w w' := by
  have HI := Lib.hid I
  have S : Hid (Sents w A) := Lib.hid S0
  clear I S0
  have hif := isIfaceErr
  have bad : ∀ k : Nat, 1 ≤ k → k ≤ 8 → netErr A (netsCode f n F) = errVal (A k) → Calls Tryd.prog 28 #[.agg (fcells f), .slice (some ⟨b, o, none⟩) n c] w fun e w' => e = .returned (.tuple #[.agg (acells .u64 2 (fun _ => 0)), .int .i64 k]) ∧ Below w.heap.size w w' := by
    intro k h1 h8 hcode
    have hc := Lib.hid hcode
    clear hcode
    go_enter Tryd.func28, Tryd.ntmps28
    go_upto_region 1 with (fail)
    rw [zero2]
    obtain ⟨W, hW, M⟩ := open2 w (fcells f) 32 (acells .u64 2 (fun _ => 0)) 39
    rw [hW]; clear hW
    go_wp2_with (first
      | (refine wpList_load_part rfl 32 _ rfl w.heap.size 0 rfl (fcells f) _ (M.at 0 rfl).whole Tryd.underlying32 rfl (by rw [fcells_size]; exact sizeFd) ?_)
      | (go_at_call 36; refine (checkNetting0 f hf n hn F hF b o c A _ (HI.out.later M.below) (S.out.later M.below)).mono ?_; rintro e W2 ⟨rfl, hb⟩; rw [hc.out]; have M2 := M.call hb)
      | (go_at_call 37; refine (codeOf_err A k h1 h8 _ (S.out.later M2.below)).mono ?_; rintro e W3 ⟨rfl, rfl⟩)
      | (refine wpList_store_row rfl 39 _ _ rfl (w.heap.size + 1) (acells .u64 2 (fun _ => 0)) rfl rfl 39 _ (M2.at 1 rfl) (by rw [acells_size]; exact sizeC) (by simp only [acells_size]) (acells_one _ _ _) ?_))
    have M3 := M2.row 1 rfl (acells .u64 2 (fun _ => 0))
    exact bodyPost_ret (results_row_tmp rfl _ _ (w.heap.size + 1) 39 _ _ _ rfl (M3.at 1 rfl) Tryd.underlying39 rfl (by rw [acells_size]; exact sizeC)) rfl ⟨rfl, M3.below⟩
  rcases code_three f n F with hc | hc | hc
  · obtain ⟨hok, hns, _⟩ := code_0 hc
    have hfits := code_fits hok hns
    have hc0 := Lib.hid (show netErr A (netsCode f n F) = .nilIface by rw [hc]; rfl)
    rw [hc, ans_0]
    clear bad hc
    go_enter Tryd.func28, Tryd.ntmps28
    go_upto_region 1 with (fail)
    rw [zero2]
    obtain ⟨W, hW, M⟩ := open2 w (fcells f) 32 (acells .u64 2 (fun _ => 0)) 39
    rw [hW]; clear hW
    go_upto_region 5 with (first
      | (refine wpList_load_part rfl 32 _ rfl w.heap.size 0 rfl (fcells f) _ (M.at 0 rfl).whole Tryd.underlying32 rfl (by rw [fcells_size]; exact sizeFd) ?_)
      | (go_at_call 36; refine (checkNetting0 f hf n hn F hF b o c A _ (HI.out.later M.below) (S.out.later M.below)).mono ?_; rintro e W2 ⟨rfl, hb⟩; rw [hc0.out]; have M2 := M.call hb; clear M)
      | (go_at_call 42; refine (layers_some n hn F hfits b o c _ (HI.out.later M2.below)).mono ?_; rintro e W3 ⟨rfl, hb3⟩; have M3 := M2.call hb3; have M4 := (M3.alloc #[.int .u64 0, .int .u64 0] 39).alloc #[.int .u64 0, .int .u64 0] 39; rw [World.size_alloc] at M4)
      | (refine wpList_store_row rfl 39 _ _ rfl W3.heap.size (acells .u64 2 (cov F n)) rfl rfl 39 _ (M4.at 2 rfl) (by rw [acells_size]; exact sizeC) (by rw [acells_size]; rfl) (acells_one _ _ _) ?_)
      | (refine wpList_store_row rfl 39 _ _ rfl (W3.heap.size + 1) (acells .u64 2 (twi F n)) rfl rfl 39 _ ((M4.row 2 rfl (acells .u64 2 (cov F n))).at 3 rfl) (by rw [acells_size]; exact sizeC) (by rw [acells_size]; rfl) (acells_one _ _ _) ?_))
    have M5 := (M4.row 2 rfl (acells .u64 2 (cov F n))).row 3 rfl (acells .u64 2 (twi F n))
    generalize World.setRow _ _ _ = W5 at M5 ⊢
    go_wp2_with (first
      | (refine wpList_load_part rfl 39 _ rfl (W3.heap.size + 1) 0 rfl (acells .u64 2 (twi F n)) _ (M5.at 3 rfl).whole Tryd.underlying39 rfl (by rw [acells_size]; exact sizeC) ?_)
      | (refine wpList_store_row rfl 39 _ _ rfl (w.heap.size + 1) (acells .u64 2 (twi F n)) rfl rfl 39 _ (M5.at 1 rfl) (by rw [acells_size]; exact sizeC) (by simp only [acells_size]) (acells_one _ _ _) ?_))
    have M6 := M5.row 1 rfl (acells .u64 2 (twi F n))
    exact bodyPost_ret (results_row_tmp rfl _ _ (w.heap.size + 1) 39 _ _ _ rfl (M6.at 1 rfl) Tryd.underlying39 rfl (by rw [acells_size]; exact sizeC)) rfl ⟨rfl, M6.below⟩
  · rw [hc, ans_1]; exact bad 1 (by omega) (by omega) (by rw [hc]; rfl)
  · rw [hc, ans_3]; exact bad 3 (by omega) (by omega) (by rw [hc]; rfl)
end Go.Proofs.YtkhhkacmfkipgaaDoor
