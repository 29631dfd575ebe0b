/-
  ValidScares: the model's, the program's.
-/
import Derived.Test.YteclngooblafoaaDoorScrChk
namespace Go.Proofs.YteclngooblafoaaDoor
open Go Go.RowKit Go.WideShapes Go.ChangeShapes

theorem free_ok {A : Nat → Addr} {f : Fd} {F : Nat → Nat → Int} {k : Nat} {c : Int} (h : (standsOk f c && freeAt F k c) = true) : freeErr A f F k c = .nilIface := by
  rw [Bool.and_eq_true] at h
  simp [freeErr, h.1, h.2]
theorem free_bad {A : Nat → Addr} {f : Fd} {F : Nat → Nat → Int} {k : Nat} {c : Int} (h : (standsOk f c && freeAt F k c) = false) : ∃ j, freeErr A f F k c = errVal (A j) := by
  unfold freeErr
  cases hs : standsOk f c with
  | false => simpa using place_none hs
  | true =>
    cases hr : freeAt F k c with
    | false => exact ⟨4, by simp⟩
    | true => simp [hs, hr] at h

set_option maxRecDepth 100000 in
set_option maxHeartbeats 4000000 in
theorem implValidScares (f : Fd) (hf : f.Wf) (n : Nat) (hn : n ≤ 2 ^ 40) (F : Nat → Nat → Int) (hF : WfS ksScarecrow n F) (d c : Nat) (hcap : n ≤ c) (A : Nat → Addr) (w : World) (S0 : Sent24 w A) (I : InS w d 0 n ksScarecrow F) :
    Calls Tryd.prog 78 #[.agg (fcells f), .slice (some ⟨d, 0, none⟩) n c] w fun e w' => e = .returned (.bool (okScares f n F)) ∧ Below w.heap.size w w' := by
  have S := Lib.hid S0
  have HI := Lib.hid I
  have HF := Lib.hid hF
  clear S0 I hF
  have hif := isIfaceErr
  cases hok : okF f with
  | false =>
    have hr : okScares f n F = false := by simp [okScares, hok]
    rw [hr]; clear hr
    go_enter Tryd.func78, Tryd.ntmps78
    go_upto_region 1 with (fail)
    obtain ⟨W, hW, M⟩ := open1 w (fcells f) 33
    rw [hW]; clear hW
    go_wp2_with (first
      | (refine wpList_load_part rfl 33 _ rfl w.heap.size 0 rfl (fcells f) _ (M.at 0 rfl).whole Tryd.underlying33 rfl (by rw [fcells_size]; exact sizeFd) ?_)
      | (go_at_call 89; refine (validField_any f hf _).mono ?_; rintro e W2 ⟨rfl, hb⟩; rw [hok]; have M2 := M.call hb))
    go_ret
    exact ⟨rfl, M2.below⟩
  | true =>
    by_cases h20 : 20 < n
    · have hr : okScares f n F = false := by simp [okScares]; omega
      rw [hr]; clear hr
      go_enter Tryd.func78, Tryd.ntmps78
      go_upto_region 1 with (fail)
      obtain ⟨W, hW, M⟩ := open1 w (fcells f) 33
      rw [hW]; clear hW
      go_wp2_with (first
        | (refine wpList_load_part rfl 33 _ rfl w.heap.size 0 rfl (fcells f) _ (M.at 0 rfl).whole Tryd.underlying33 rfl (by rw [fcells_size]; exact sizeFd) ?_)
        | (go_at_call 89; refine (validField_any f hf _).mono ?_; rintro e W2 ⟨rfl, hb⟩; rw [hok]; have M2 := M.call hb))
      go_ret
      exact ⟨rfl, M2.below⟩
    · have hr : okScares f n F = allTo n (fun i => scareOk f F i) := by simp [okScares, hok]; omega
      rw [hr]; clear hr
      go_enter Tryd.func78, Tryd.ntmps78
      go_upto_region 1 with (fail)
      obtain ⟨W, hW, M⟩ := open1 w (fcells f) 33
      rw [hW]; clear hW
      go_wp2_with (first
        | (refine wpList_load_part rfl 33 _ rfl w.heap.size 0 rfl (fcells f) _ (M.at 0 rfl).whole Tryd.underlying33 rfl (by rw [fcells_size]; exact sizeFd) ?_)
        | (go_at_call 89; refine (validField_any f hf _).mono ?_; rintro e W2 ⟨rfl, hb⟩; rw [hok]; have M2 := Lib.hid (M.call hb); clear hb))
      clear M
      go_loopw [17] (fun i wr => ∃ k : Nat, k ≤ n ∧ i = .int .i64 k ∧ Hid (Mem w wr [⟨w.heap.size, fcells f, 33⟩]) ∧ Hid (∀ i, i < k → scareOk f F i = true)) (fun i _ => n - (intOf i).toNat)
      case atStart => exact ⟨0, by omega, rfl, M2, Lib.hid (fun i hi => by omega)⟩
      case round =>
        clear M2
        obtain ⟨k, hk, rfl, hM, hall⟩ := hrel
        by_cases hlt : k < n
        · obtain ⟨c0, c1, c2⟩ : ScrAt wr d (k * 3) (F k) := scrAt_of (by have h := HI.out.later hM.out.below k hlt; rw [Nat.zero_add] at h; exact h)
          have hT := Lib.hid (wfT_row HF.out hlt)
          go_upto_region 6 with (fail)
          clear c0 c1 c2
          obtain ⟨sb, hsb⟩ : ∃ sb, sb = wr.heap.size := ⟨_, rfl⟩
          have M3 : Mem w (wr.alloc (.cells #[.int .i16 (F k 0), .int .i16 (F k 1), .int .i8 (F k 2)] 71)) [⟨w.heap.size, fcells f, 33⟩, ⟨sb, #[.int .i16 (F k 0), .int .i16 (F k 1), .int .i8 (F k 2)], 71⟩] := by rw [hsb]; exact hM.out.alloc _ _
          generalize wr.alloc _ = W2 at M3 ⊢
          rw [← hsb]
          clear hsb hM
          cases q1 : shapeOk (F k) with
          | false =>
            have hx : Hid (allTo n (fun i => scareOk f F i) = false) := Lib.hid (allTo_false hlt (by simp [scareOk, q1]))
            have hshape : Hid (∀ w', Calls Tryd.prog 90 #[vScarecrow (F k)] w' fun e w2 => e = .returned (.bool false) ∧ Below w'.heap.size w' w2) := Lib.hid (fun w' => by have h := scrText_any (F k) hT.out w'; rw [q1] at h; exact h)
            refine wp_region_rel (DL [dV (.agg #[.int .i16 (F k 0), .int .i16 (F k 1), .int .i8 (F k 2)]), dV (.bool false), dV (.bool true), dV (.bool true), dV (undef), dV (undef), dV (undef), dV (undef), dV (undef), dV (undef), dV (undef), dV (undef), dV (undef), dV (.bool true)]) (fun w' => Mem w w' [⟨w.heap.size, fcells f, 33⟩, ⟨sb, #[.int .i16 (F k 0), .int .i16 (F k 1), .int .i8 (F k 2)], 71⟩]) (by kernel_rfl) (by kernel_rfl) grows_mem
              (stays_DL (fun d hd => by
                simp only [List.mem_cons, List.mem_nil_iff, or_false] at hd
                rcases hd with rfl | rfl | rfl | rfl | rfl | rfl | rfl | rfl | rfl | rfl | rfl | rfl | rfl | rfl <;> exact stay_V)) M3.drew ?_
            refine rel_load 71 _ rfl sb 0 rfl #[.int .i16 (F k 0), .int .i16 (F k 1), .int .i8 (F k 2)] _ rfl rfl (fun w' hw' => (Mem.at hw' 1 rfl).whole) Tryd.underlying71 rfl (by kernel_rfl) (fun _ => ?_)
            simp only [Act.put, List.setIfInBounds_toArray, List.set_cons_zero, List.set_cons_succ]
            refine rel_call (.bool false) 90 #[.agg #[.int .i16 (F k 0), .int .i16 (F k 1), .int .i8 (F k 2)]] rfl rfl rfl rfl (enters_of Tryd.func90 (by kernel_rfl) rfl) (fun w' _ => hshape.out w') (fun _ => ?_)
            simp only [Act.put, List.setIfInBounds_toArray, List.set_cons_zero, List.set_cons_succ]
            refine rel_val (.bool true) rfl rfl (fun _ _ => rfl) (fun _ => ?_)
            simp only [Act.put, List.setIfInBounds_toArray, List.set_cons_zero, List.set_cons_succ]
            refine rel_val (.bool true) rfl rfl (fun _ _ => rfl) (fun _ => ?_)
            simp only [Act.put, List.setIfInBounds_toArray, List.set_cons_zero, List.set_cons_succ]
            refine rel_skip rfl ?_
            simp only [Act.put, List.setIfInBounds_toArray, List.set_cons_zero, List.set_cons_succ]
            refine rel_skip rfl ?_
            simp only [Act.put, List.setIfInBounds_toArray, List.set_cons_zero, List.set_cons_succ]
            refine rel_skip rfl ?_
            simp only [Act.put, List.setIfInBounds_toArray, List.set_cons_zero, List.set_cons_succ]
            refine rel_skip rfl ?_
            simp only [Act.put, List.setIfInBounds_toArray, List.set_cons_zero, List.set_cons_succ]
            refine rel_skip rfl ?_
            simp only [Act.put, List.setIfInBounds_toArray, List.set_cons_zero, List.set_cons_succ]
            refine rel_skip rfl ?_
            simp only [Act.put, List.setIfInBounds_toArray, List.set_cons_zero, List.set_cons_succ]
            refine rel_skip rfl ?_
            simp only [Act.put, List.setIfInBounds_toArray, List.set_cons_zero, List.set_cons_succ]
            refine rel_skip rfl ?_
            simp only [Act.put, List.setIfInBounds_toArray, List.set_cons_zero, List.set_cons_succ]
            refine rel_skip rfl ?_
            simp only [Act.put, List.setIfInBounds_toArray, List.set_cons_zero, List.set_cons_succ]
            refine rel_val (.bool true) rfl rfl (fun _ _ => rfl) (fun _ => ?_)
            simp only [Act.put, List.setIfInBounds_toArray, List.set_cons_zero, List.set_cons_succ]
            refine rel_nil (fun w' inv => ?_)
            have hb := Mem.below inv.cls
            clear inv
            go_wp2_with fail
            go_ret
            exact ⟨by rw [hx.out]; rfl, hb⟩
          | true =>
            have h99 : 0 ≤ F k 0 ∧ F k 0 ≤ 99 := by simp only [shapeOk, Bool.and_eq_true, inB_iff] at q1; exact q1.1.1
            obtain ⟨m, e⟩ : ∃ m : Nat, F k 0 = (m : Int) := ⟨(F k 0).toNat, by omega⟩
            have hm : m < 100 := by omega
            have hm1 : (m : Int) < 100 := by omega
            clear h99
            rw [e] at M3 ⊢
            have hshape : Hid (∀ w', Calls Tryd.prog 90 #[.agg #[.int .i16 (m : Int), .int .i16 (F k 1), .int .i8 (F k 2)]] w' fun e w2 => e = .returned (.bool true) ∧ Below w'.heap.size w' w2) := Lib.hid (fun w' => by have h := scrText_any (F k) hT.out w'; rw [q1, vScarecrow, e] at h; exact h)
            cases q2 : (standsOk f m && freeAt F k m) with
            | false =>
              have hx : Hid (allTo n (fun i => scareOk f F i) = false) := Lib.hid (allTo_false hlt (by rw [scareOk, e, Bool.and_assoc, q2, Bool.and_false]))
              obtain ⟨j, hv0⟩ := free_bad (A := A) q2
              have hv := Lib.hid hv0
              clear hv0
              refine wp_region_rel (DL [dV (.agg #[.int .i16 ((m : Int)), .int .i16 (F k 1), .int .i8 (F k 2)]), dV (.bool true), dV (.bool false), dV (.bool false), dV (.agg (fcells f)), dV (.slice (some ⟨d, 0, none⟩) n c), dV (.int .i64 k), dV (.slice (some ⟨d, 0, none⟩) k c), dV (.pointer (some ⟨sb, 0, none⟩)), dV (.int .i16 ((m : Int))), dV (.int .i64 ((m : Int))), dV (errVal (A j)), dV (.bool true), dV (.bool true)]) (fun w' => Mem w w' [⟨w.heap.size, fcells f, 33⟩, ⟨sb, #[.int .i16 ((m : Int)), .int .i16 (F k 1), .int .i8 (F k 2)], 71⟩]) (by kernel_rfl) (by kernel_rfl) grows_mem
                (stays_DL (fun d hd => by
                  simp only [List.mem_cons, List.mem_nil_iff, or_false] at hd
                  rcases hd with rfl | rfl | rfl | rfl | rfl | rfl | rfl | rfl | rfl | rfl | rfl | rfl | rfl | rfl <;> exact stay_V)) M3.drew ?_
              refine rel_load 71 _ rfl sb 0 rfl #[.int .i16 ((m : Int)), .int .i16 (F k 1), .int .i8 (F k 2)] _ rfl rfl (fun w' hw' => (Mem.at hw' 1 rfl).whole) Tryd.underlying71 rfl (by kernel_rfl) (fun _ => ?_)
              simp only [Act.put, List.setIfInBounds_toArray, List.set_cons_zero, List.set_cons_succ]
              refine rel_call (.bool true) 90 #[.agg #[.int .i16 ((m : Int)), .int .i16 (F k 1), .int .i8 (F k 2)]] rfl rfl rfl rfl (enters_of Tryd.func90 (by kernel_rfl) rfl) (fun w' _ => hshape.out w') (fun _ => ?_)
              simp only [Act.put, List.setIfInBounds_toArray, List.set_cons_zero, List.set_cons_succ]
              refine rel_val (.bool false) rfl rfl (fun _ _ => rfl) (fun _ => ?_)
              simp only [Act.put, List.setIfInBounds_toArray, List.set_cons_zero, List.set_cons_succ]
              refine rel_val (.bool false) rfl rfl (fun _ _ => rfl) (fun _ => ?_)
              simp only [Act.put, List.setIfInBounds_toArray, List.set_cons_zero, List.set_cons_succ]
              refine rel_load 33 _ rfl w.heap.size 0 rfl (fcells f) _ rfl rfl (fun w' hw' => (Mem.at hw' 0 rfl).whole) Tryd.underlying33 rfl (by rw [fcells_size]; exact sizeFd) (fun _ => ?_)
              simp only [Act.put, List.setIfInBounds_toArray, List.set_cons_zero, List.set_cons_succ]
              refine rel_val (.slice (some ⟨d, 0, none⟩) n c) rfl rfl (fun _ _ => rfl) (fun _ => ?_)
              simp only [Act.put, List.setIfInBounds_toArray, List.set_cons_zero, List.set_cons_succ]
              refine rel_val (.int .i64 k) rfl rfl (fun _ _ => rfl) (fun _ => ?_)
              simp only [Act.put, List.setIfInBounds_toArray, List.set_cons_zero, List.set_cons_succ]
              refine rel_val (.slice (some ⟨d, 0, none⟩) k c) rfl rfl (fun w' _ => by simp [execOp, go_sem]; intro h; omega) (fun _ => ?_)
              simp only [Act.put, List.setIfInBounds_toArray, List.set_cons_zero, List.set_cons_succ]
              refine rel_val (.pointer (some ⟨sb, 0, none⟩)) rfl rfl (fun _ _ => rfl) (fun _ => ?_)
              simp only [Act.put, List.setIfInBounds_toArray, List.set_cons_zero, List.set_cons_succ]
              refine rel_cell 24 _ rfl sb 0 rfl (.int .i16 ((m : Int))) rfl rfl (fun w' c => load_i16 _ _ _ w' c) (fun w' hw' => (Mem.at hw' 1 rfl).cell (i := 0) rfl) (fun _ => ?_)
              simp only [Act.put, List.setIfInBounds_toArray, List.set_cons_zero, List.set_cons_succ]
              refine rel_val (.int .i64 ((m : Int))) rfl rfl (fun w' _ => by simp [execOp, go_sem]; exact IntWalk.i64_in _ (by omega)) (fun _ => ?_)
              simp only [Act.put, List.setIfInBounds_toArray, List.set_cons_zero, List.set_cons_succ]
              refine rel_call (errVal (A j)) 91 #[.agg (fcells f), .slice (some ⟨d, 0, none⟩) k c, .int .i64 ((m : Int))] rfl rfl rfl rfl (enters_of Tryd.func91 (by kernel_rfl) rfl) (fun w' hw' => (checkFree_any f hf hok k (by omega) F (fun i hi => HF.out i (by omega)) d c m (by omega) (by omega) A w' (S.out.later (Mem.below hw')) (fun i hi => HI.out.later (Mem.below hw') i (by omega))).mono (fun e w2 h => ⟨by rw [h.1, hv.out], h.2⟩)) (fun _ => ?_)
              simp only [Act.put, List.setIfInBounds_toArray, List.set_cons_zero, List.set_cons_succ]
              refine rel_val (.bool true) rfl rfl (fun w' _ => by simp [execOp, go_sem]) (fun _ => ?_)
              simp only [Act.put, List.setIfInBounds_toArray, List.set_cons_zero, List.set_cons_succ]
              refine rel_val (.bool true) rfl rfl (fun _ _ => rfl) (fun _ => ?_)
              simp only [Act.put, List.setIfInBounds_toArray, List.set_cons_zero, List.set_cons_succ]
              refine rel_nil (fun w' inv => ?_)
              have hb := Mem.below inv.cls
              clear inv
              go_wp2_with fail
              go_ret
              exact ⟨by rw [hx.out]; rfl, hb⟩
            | true =>
              have hsc : Hid (scareOk f F k = true) := Lib.hid (by rw [scareOk, e, Bool.and_assoc, q2, q1]; rfl)
              have hv := Lib.hid (free_ok (A := A) q2)
              refine wp_region_rel (DL [dV (.agg #[.int .i16 ((m : Int)), .int .i16 (F k 1), .int .i8 (F k 2)]), dV (.bool true), dV (.bool false), dV (.bool false), dV (.agg (fcells f)), dV (.slice (some ⟨d, 0, none⟩) n c), dV (.int .i64 k), dV (.slice (some ⟨d, 0, none⟩) k c), dV (.pointer (some ⟨sb, 0, none⟩)), dV (.int .i16 ((m : Int))), dV (.int .i64 ((m : Int))), dV (.nilIface), dV (.bool false), dV (.bool false)]) (fun w' => Mem w w' [⟨w.heap.size, fcells f, 33⟩, ⟨sb, #[.int .i16 ((m : Int)), .int .i16 (F k 1), .int .i8 (F k 2)], 71⟩]) (by kernel_rfl) (by kernel_rfl) grows_mem
                (stays_DL (fun d hd => by
                  simp only [List.mem_cons, List.mem_nil_iff, or_false] at hd
                  rcases hd with rfl | rfl | rfl | rfl | rfl | rfl | rfl | rfl | rfl | rfl | rfl | rfl | rfl | rfl <;> exact stay_V)) M3.drew ?_
              refine rel_load 71 _ rfl sb 0 rfl #[.int .i16 ((m : Int)), .int .i16 (F k 1), .int .i8 (F k 2)] _ rfl rfl (fun w' hw' => (Mem.at hw' 1 rfl).whole) Tryd.underlying71 rfl (by kernel_rfl) (fun _ => ?_)
              simp only [Act.put, List.setIfInBounds_toArray, List.set_cons_zero, List.set_cons_succ]
              refine rel_call (.bool true) 90 #[.agg #[.int .i16 ((m : Int)), .int .i16 (F k 1), .int .i8 (F k 2)]] rfl rfl rfl rfl (enters_of Tryd.func90 (by kernel_rfl) rfl) (fun w' _ => hshape.out w') (fun _ => ?_)
              simp only [Act.put, List.setIfInBounds_toArray, List.set_cons_zero, List.set_cons_succ]
              refine rel_val (.bool false) rfl rfl (fun _ _ => rfl) (fun _ => ?_)
              simp only [Act.put, List.setIfInBounds_toArray, List.set_cons_zero, List.set_cons_succ]
              refine rel_val (.bool false) rfl rfl (fun _ _ => rfl) (fun _ => ?_)
              simp only [Act.put, List.setIfInBounds_toArray, List.set_cons_zero, List.set_cons_succ]
              refine rel_load 33 _ rfl w.heap.size 0 rfl (fcells f) _ rfl rfl (fun w' hw' => (Mem.at hw' 0 rfl).whole) Tryd.underlying33 rfl (by rw [fcells_size]; exact sizeFd) (fun _ => ?_)
              simp only [Act.put, List.setIfInBounds_toArray, List.set_cons_zero, List.set_cons_succ]
              refine rel_val (.slice (some ⟨d, 0, none⟩) n c) rfl rfl (fun _ _ => rfl) (fun _ => ?_)
              simp only [Act.put, List.setIfInBounds_toArray, List.set_cons_zero, List.set_cons_succ]
              refine rel_val (.int .i64 k) rfl rfl (fun _ _ => rfl) (fun _ => ?_)
              simp only [Act.put, List.setIfInBounds_toArray, List.set_cons_zero, List.set_cons_succ]
              refine rel_val (.slice (some ⟨d, 0, none⟩) k c) rfl rfl (fun w' _ => by simp [execOp, go_sem]; intro h; omega) (fun _ => ?_)
              simp only [Act.put, List.setIfInBounds_toArray, List.set_cons_zero, List.set_cons_succ]
              refine rel_val (.pointer (some ⟨sb, 0, none⟩)) rfl rfl (fun _ _ => rfl) (fun _ => ?_)
              simp only [Act.put, List.setIfInBounds_toArray, List.set_cons_zero, List.set_cons_succ]
              refine rel_cell 24 _ rfl sb 0 rfl (.int .i16 ((m : Int))) rfl rfl (fun w' c => load_i16 _ _ _ w' c) (fun w' hw' => (Mem.at hw' 1 rfl).cell (i := 0) rfl) (fun _ => ?_)
              simp only [Act.put, List.setIfInBounds_toArray, List.set_cons_zero, List.set_cons_succ]
              refine rel_val (.int .i64 ((m : Int))) rfl rfl (fun w' _ => by simp [execOp, go_sem]; exact IntWalk.i64_in _ (by omega)) (fun _ => ?_)
              simp only [Act.put, List.setIfInBounds_toArray, List.set_cons_zero, List.set_cons_succ]
              refine rel_call (.nilIface) 91 #[.agg (fcells f), .slice (some ⟨d, 0, none⟩) k c, .int .i64 ((m : Int))] rfl rfl rfl rfl (enters_of Tryd.func91 (by kernel_rfl) rfl) (fun w' hw' => (checkFree_any f hf hok k (by omega) F (fun i hi => HF.out i (by omega)) d c m (by omega) (by omega) A w' (S.out.later (Mem.below hw')) (fun i hi => HI.out.later (Mem.below hw') i (by omega))).mono (fun e w2 h => ⟨by rw [h.1, hv.out], h.2⟩)) (fun _ => ?_)
              simp only [Act.put, List.setIfInBounds_toArray, List.set_cons_zero, List.set_cons_succ]
              refine rel_val (.bool false) rfl rfl (fun w' _ => by simp [execOp, go_sem]) (fun _ => ?_)
              simp only [Act.put, List.setIfInBounds_toArray, List.set_cons_zero, List.set_cons_succ]
              refine rel_val (.bool false) rfl rfl (fun _ _ => rfl) (fun _ => ?_)
              simp only [Act.put, List.setIfInBounds_toArray, List.set_cons_zero, List.set_cons_succ]
              refine rel_nil (fun w' inv => ?_)
              have M4 := Lib.hid (Mem.fst inv.cls)
              clear inv M3
              go_wp2_with fail
              go_roundw
              case rel => exact ⟨k + 1, by omega, by go_num, M4, Lib.hid (upto_succ hall.out hsc.out)⟩
              case measure => simp [intOf]; omega
        · obtain rfl : k = n := by omega
          have hx : Hid (allTo k (fun i => scareOk f F i) = true) := Lib.hid (allTo_iff.2 hall.out)
          go_wp2_with fail
          go_ret
          exact ⟨by rw [hx.out]; rfl, hM.out.below⟩
end Go.Proofs.YteclngooblafoaaDoor
