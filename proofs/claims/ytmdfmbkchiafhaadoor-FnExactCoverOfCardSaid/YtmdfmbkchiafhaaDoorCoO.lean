/-
  The cover of a cell: the program's.
-/
import Derived.Test.YtmdfmbkchiafhaaDoorCvR
import Derived.Test.YtmdfmbkchiafhaaDoorCoS
namespace Go.Proofs.YtmdfmbkchiafhaaDoor
open Go Go.RowKit

set_option maxRecDepth 100000 in
set_option maxHeartbeats 8000000 in
theorem implCoverOf (f : Fd) (hf : f.Wf) (c : Int) (hc0 : -9223372036854775808 ≤ c ∧ c ≤ 9223372036854775807) (x y : Int) (A : Nat → Addr) (w : World) (S0 : Sents w A) :
    Calls Tryd.prog 26 #[.agg (fcells f), .int .i64 c, .int .i64 x, .int .i64 y] w fun e w' => e = .returned (.tuple #[.agg (acells .u64 2 (coVal f c x y)), .int .i64 (coCode f c x y)]) ∧ Below w.heap.size w w' := by
  have S : Hid (Sents w A) := Lib.hid S0
  clear S0
  have hif := isIfaceErr
  obtain ⟨q, hq⟩ : ∃ q, (inB x 1 1000 && inB y 1 1000) = q := ⟨_, rfl⟩
  have hgq : (allTo 0 (fun i => isCell f ((fun _ => (0 : Int)) i)) && inB y 1 1000 && inB x 1 1000) = q := by
    rw [← hq]
    simp only [allTo, List.range_zero, List.all_nil, Bool.true_and]
    rw [Bool.and_comm]
  have HCH := Lib.hid (fun (W : World) (S : Sents W A) => checkCovering_any f hf x y 0 (by omega) (fun _ => (0 : Int)) (fun _ _ => ⟨by decide, by decide⟩) none 0 A W (.inl rfl) S)
  rw [hgq] at HCH
  have bad : ∀ k : Nat, 1 ≤ k → k ≤ 8 → gmCode f q = k → coCode f c x y = k → Calls Tryd.prog 26 #[.agg (fcells f), .int .i64 c, .int .i64 x, .int .i64 y] w fun e w' => e = .returned (.tuple #[.agg (acells .u64 2 (coVal f c x y)), .int .i64 (coCode f c x y)]) ∧ Below w.heap.size w w' := by
    intro k h1 h8 hk hcc
    have hV : coVal f c x y = fun _ => 0 := by unfold coVal; rw [hcc, if_neg (by omega)]
    have HE : Hid (askErr A (gmCode f q) = errVal (A k)) := Lib.hid (by rw [hk]; unfold askErr; rw [if_neg (by omega), Int.toNat_natCast])
    rw [hV, hcc]
    clear hV hk hcc hgq hq
    go_enter Tryd.func26, Tryd.ntmps26
    go_upto_region 1 with (fail)
    rw [zero2]
    obtain ⟨W, hW, M⟩ := open2 w (fcells f) 34 (acells .u64 2 (fun _ => 0)) 38
    rw [hW]; clear hW
    go_wp2_with (first
      | (refine wpList_load_part rfl 34 _ rfl w.heap.size 0 rfl (fcells f) _ (M.at 0 rfl).whole Tryd.underlying34 rfl (by rw [fcells_size]; exact sizeFd) ?_)
      | (go_at_call 58; refine (HCH.out _ (S.out.later M.below)).mono ?_; rintro e W2 ⟨rfl, hb⟩; rw [HE.out]; have M2 := M.call hb; clear M hb)
      | (go_at_call 45; refine (codeOf_err A k h1 h8 _ (S.out.later M2.below)).mono ?_; rintro e W3 ⟨rfl, rfl⟩)
      | (refine wpList_store_row rfl 38 _ _ rfl (w.heap.size + 1) (acells .u64 2 (fun _ => 0)) rfl rfl 38 _ (M2.at 1 rfl) (by rw [acells_size]; exact sizeC) (by simp only [acells_size]) (acells_one _ _ _) ?_))
    have M4 := M2.row 1 rfl (acells .u64 2 (fun _ => 0))
    exact bodyPost_ret (results_row_tmp rfl _ _ (w.heap.size + 1) 38 _ _ _ rfl (M4.at 1 rfl) Tryd.underlying38 rfl (by rw [acells_size]; exact sizeC)) rfl ⟨rfl, M4.below⟩
  have good : ∀ (g9 : Nat → Int) (ev : Value) (kc : Int), okF f = true → gmCode f q = 0 → (∀ (b : Nat) (w : World), w.cell? ⟨b, 0, none⟩ = some (.int .i64 c) → Sents w A → Calls Tryd.prog 62 #[.agg (fcells f), .int .i64 x, .int .i64 y, .slice (some ⟨b, 0, none⟩) 1 1] w fun e w' => e = .returned (.tuple #[.agg (acells .u64 2 g9), ev]) ∧ Below w.heap.size w w') →
      (∀ (w : World), Sents w A → Calls Tryd.prog 45 #[ev] w fun e w' => e = .returned (.int .i64 kc) ∧ w = w') → Calls Tryd.prog 26 #[.agg (fcells f), .int .i64 c, .int .i64 x, .int .i64 y] w fun e w' => e = .returned (.tuple #[.agg (acells .u64 2 g9), .int .i64 kc]) ∧ Below w.heap.size w w' := by
    intro g9 ev kc hok hg hca hco
    have HCA := Lib.hid hca
    have HCO := Lib.hid hco
    have HE : Hid (askErr A (gmCode f q) = .nilIface) := Lib.hid (by rw [hg]; rfl)
    clear hca hco hg bad hgq hq hok
    go_enter Tryd.func26, Tryd.ntmps26
    go_upto_region 1 with (fail)
    rw [zero2]
    obtain ⟨W, hW, M⟩ := open2 w (fcells f) 34 (acells .u64 2 (fun _ => 0)) 38
    rw [hW]; clear hW
    go_upto_region 5 with (first
      | (refine wpList_load_part rfl 34 _ rfl w.heap.size 0 rfl (fcells f) _ (M.at 0 rfl).whole Tryd.underlying34 rfl (by rw [fcells_size]; exact sizeFd) ?_)
      | (go_at_call 58; refine (HCH.out _ (S.out.later M.below)).mono ?_; rintro e W2 ⟨rfl, hb⟩; rw [HE.out]; have M2 := M.call hb; clear M hb)
      | (refine wpList_load_part rfl 34 _ rfl w.heap.size 0 rfl (fcells f) _ (M2.at 0 rfl).whole Tryd.underlying34 rfl (by rw [fcells_size]; exact sizeFd) ?_)
      | (go_at_call 62; refine (HCA.out W2.heap.size _ ((Blk.new W2 #[.int .i64 c] 2).cell (i := 0) rfl) (S.out.later (M2.alloc #[.int .i64 c] 2).below)).mono ?_; rintro e W3 ⟨rfl, hb⟩; have M3 := (M2.alloc #[.int .i64 c] 2).call hb; clear hb; have M4 := M3.alloc #[.int .u64 0, .int .u64 0] 38)
      | (refine wpList_store_row rfl 38 _ _ rfl W3.heap.size (acells .u64 2 g9) rfl rfl 38 _ (M4.at 3 rfl) (by rw [acells_size]; exact sizeC) (by rw [acells_size]; rfl) (acells_one _ _ _) ?_))
    have M5 := M4.row 3 rfl (acells .u64 2 g9)
    obtain ⟨ab, hab⟩ : ∃ ab, ab = W3.heap.size := ⟨_, rfl⟩
    rw [← hab] at M5 ⊢
    generalize World.setRow _ _ _ = W5 at M5 ⊢
    clear hab M4 M3 M2
    have HM := Lib.hid M5
    refine wp_region_rel_tail 3 (DL [dV (.agg (acells .u64 2 g9)), dV ev, dV (.int .i64 kc)]) (fun w' => Mem w w' [⟨w.heap.size, fcells f, 34⟩, ⟨w.heap.size + 1, acells .u64 2 (fun _ => 0), 38⟩, ⟨W2.heap.size, #[.int .i64 c], 2⟩, ⟨ab, acells .u64 2 g9, 38⟩]) (by kernel_rfl) (by kernel_rfl) grows_mem
      (stays_DL (fun d hd => by
        simp only [List.mem_cons, List.mem_nil_iff, or_false] at hd
        rcases hd with rfl | rfl | rfl <;> exact stay_V)) HM.out.drew ?_
    refine rel_load 38 _ rfl ab 0 rfl (acells .u64 2 g9) _ rfl rfl (fun w' hw' => (hw'.at 3 rfl).whole) Tryd.underlying38 rfl (by rw [acells_size]; exact sizeC) (fun _ => ?_)
    simp only [Act.put, List.setIfInBounds_toArray, List.set_cons_zero, List.set_cons_succ]
    refine rel_val _ rfl rfl (fun _ _ => rfl) (fun _ => ?_)
    simp only [Act.put, List.setIfInBounds_toArray, List.set_cons_zero, List.set_cons_succ]
    refine rel_call (.int .i64 kc) 45 #[ev] rfl rfl rfl rfl (enters_of Tryd.func45 (by kernel_rfl) rfl) (fun w' hw' => (HCO.out w' (S.out.later hw'.below)).mono (fun e w2 h => ⟨h.1, by rw [← h.2]; exact Below.refl _ _⟩)) (fun _ => ?_)
    simp only [Act.put, List.setIfInBounds_toArray, List.set_cons_zero, List.set_cons_succ]
    refine rel_nil (fun W6 inv => ?_)
    have M6 := inv.cls
    clear inv
    change wpList _ _ _ (_ :: [_]) _ _
    refine wpList_store_row rfl 38 _ _ rfl (w.heap.size + 1) (acells .u64 2 g9) rfl rfl 38 _ (M6.at 1 rfl) (by rw [acells_size]; exact sizeC) (by simp only [acells_size]) (acells_one _ _ _) ?_
    have M7 := M6.row 1 rfl (acells .u64 2 g9)
    go_wp2_with fail
    exact bodyPost_ret (results_row_tmp rfl _ _ (w.heap.size + 1) 38 _ _ _ rfl (M7.at 1 rfl) Tryd.underlying38 rfl (by rw [acells_size]; exact sizeC)) rfl ⟨rfl, M7.below⟩
  rcases gm_cases f q with ⟨h0, hok, hqt⟩ | ⟨h0, hno⟩ | ⟨h0, hok, hqf⟩
  · have hxy : inB x 1 1000 = true ∧ inB y 1 1000 = true := by rw [← hq] at hqt; simpa using hqt
    have hx := inB_iff.1 hxy.1
    cases hcl : isCell f c with
    | true =>
      obtain ⟨c9, hc9, rfl⟩ := cell_nat hcl
      have ha : asked f (c9 : Int) q = 0 := by unfold asked; rw [hok, hcl, hqt]; rfl
      by_cases hK : f.K c9 = 3
      · have hcc : coCode f (c9 : Int) x y = 4 := by unfold coCode; rw [hq, ha, if_pos rfl, Int.toNat_natCast, if_pos hK]
        have hV : coVal f (c9 : Int) x y = fun _ => 0 := by unfold coVal; rw [hcc, if_neg (by decide)]
        have he : placeErr A f (c9 : Int) = errVal (A 4) := by unfold placeErr; rw [hcl, if_pos rfl, Int.toNat_natCast, if_pos hK]
        rw [hV, hcc]
        exact good (fun _ => 0) (errVal (A 4)) 4 hok h0 (fun b w cP S => coverOfAll_none f hf hok (c9 : Int) hc0 x y b A (A 4) he w cP S) (fun w S => codeOf_err A 4 (by omega) (by omega) w S)
      · have hcc : coCode f (c9 : Int) x y = 0 := by unfold coCode; rw [hq, ha, if_pos rfl, Int.toNat_natCast, if_neg hK]
        have hV : coVal f (c9 : Int) x y = cvS f c9 x y := by unfold coVal; rw [hcc, if_pos rfl, Int.toNat_natCast]
        rw [hV, hcc]
        exact good (cvS f c9 x y) .nilIface 0 hok h0 (fun b w cP S => coverOfAll_one f hf hok c9 hc9 hcl hK x y hx b A w cP S) (fun w S => codeOf_nil A w S)
    | false =>
      have ha : asked f c q = 2 := by unfold asked; rw [hok, hcl]; rfl
      have hcc : coCode f c x y = 2 := by unfold coCode; rw [hq, ha, if_neg (by decide)]
      have hV : coVal f c x y = fun _ => 0 := by unfold coVal; rw [hcc, if_neg (by decide)]
      have he : placeErr A f c = errVal (A 2) := by unfold placeErr; rw [hcl]; rfl
      rw [hV, hcc]
      exact good (fun _ => 0) (errVal (A 2)) 2 hok h0 (fun b w cP S => coverOfAll_none f hf hok c hc0 x y b A (A 2) he w cP S) (fun w S => codeOf_err A 2 (by omega) (by omega) w S)
  · exact bad 1 (by omega) (by omega) h0 (by unfold coCode; rw [hq, show asked f c q = 1 by unfold asked; rw [hno]; rfl, if_neg (by decide)]; rfl)
  · exact bad 2 (by omega) (by omega) h0 (by unfold coCode; rw [hq, show asked f c q = 2 by unfold asked; rw [hok, hqf]; simp, if_neg (by decide)]; rfl)
end Go.Proofs.YtmdfmbkchiafhaaDoor
