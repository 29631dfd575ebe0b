/-
  Which cell a flock chooses: the model's search.
-/
import Derived.Test.YtaioflkonpommaaDoorChR
namespace Go.Proofs.YtaioflkonpommaaDoor
open Go Go.RowKit

theorem size3 : (Tryd.prog.info? 106).map (·.size) = some 3 := by kernel_rfl
/-- The cell that is chosen; -1 if there is none. -/
def chcV (t : Int) (R : List (Nat → Int)) : Int := if R.length = 0 then -1 else bL t R 0
set_option maxRecDepth 100000 in
set_option maxHeartbeats 16000000 in
theorem l02Choice_any (f : Fd) (hf : f.Wf) (g : Nat → Int) (hg : Wf16 g) (a : Nat → Int) (ha : WfR a) (h0 : 0 ≤ a 0 ∧ a 0 ≤ 99) (h5 : 0 ≤ a 5 ∧ a 5 ≤ 2) (b c d o : Nat) (w : World) (B : Blk w b (fcells f) 30) (G : Blk w c (acells .i16 100 g) 36) (H : FlkAt w d o a) :
    Calls Tryd.prog 39 #[.pointer (some ⟨b, 0, none⟩), .pointer (some ⟨c, 0, none⟩), .pointer (some ⟨d, o, none⟩)] w fun e w' => e = .returned (.int .i64 (chcV (a 5) (mealsR f g a 100))) ∧ Below w.heap.size w w' := by
  have HB := Lib.hid B
  have HG := Lib.hid G
  have HF := Lib.hid H
  have HW := Lib.hid (fun (k : Nat) (hk : k < 100) (w : World) B G H => l02Would_any f hf g hg a ha h0 k hk b c d o w B G H)
  have HR := Lib.hid (fun (k : Nat) (hk : k < 100) (w : World) B G H => l02Ranks_any f hf g hg a ha h0 h5 k hk b c d o w B G H)
  have HIN := Lib.hid (meals_in f g a)
  obtain ⟨t, ht⟩ : ∃ t, a 5 = t := ⟨_, rfl⟩
  rw [ht] at HR ⊢
  have HY := Lib.hid (fun k => @mealsR_yes f g a k)
  have HNO := Lib.hid (fun k => @mealsR_no f g a k)
  clear B G H hf hg ha h0 h5 ht
  go_enter Tryd.func39, Tryd.ntmps39
  go_upto_region 3 with (fail)
  obtain ⟨W, hW, M⟩ := open1 w #[.int .i64 0, .int .i64 0, .int .i64 0] 106
  rw [hW]; clear hW
  have M1 : Mem w W [⟨w.heap.size, r3 (fun _ => 0), 106⟩] := M
  have HM := Lib.hid M1
  clear M M1
  go_wp2_with fail
  go_loopw [7, 9, 10, 11] (fun v i _ _ wr => ∃ (k : Nat) (q : Nat → Int), k ≤ 100 ∧ i = .int .i64 k ∧ Hid (Mem w wr [⟨w.heap.size, r3 q, 106⟩]) ∧ v = .int .i64 (chcV t (mealsR f g a k)) ∧ Hid ((mealsR f g a k).length ≠ 0 → q = rkT t (bL t (mealsR f g a k)))) (fun _ i _ _ _ => 100 - (intOf i).toNat)
  case atStart => exact ⟨0, fun _ => 0, by omega, rfl, HM, rfl, Lib.hid (fun h => absurd rfl h)⟩
  case round =>
    clear HM
    obtain ⟨k, q, hk', rfl, hM, rfl, hQ⟩ := hrel
    by_cases hlt : k < 100
    · have hin := HIN.out k hk'
      obtain ⟨R, hR⟩ : ∃ R, mealsR f g a k = R := ⟨_, rfl⟩
      have hyy := HY.out k
      have hnn := HNO.out k
      rw [hR] at hyy hnn hQ hin ⊢
      have HWK := Lib.hid (HW.out k hlt)
      cases hq2 : (isCell f (k : Int) && wldQ f g a k) with
      | false =>
        have e := Lib.hid (hnn hq2)
        rw [hq2] at HWK
        obtain ⟨v, hv⟩ : ∃ v, chcV t R = v := ⟨_, rfl⟩
        have HV := Lib.hid hv
        rw [hv]
        clear hq2 hyy hnn hin hR hv
        go_wp2_with (go_at_call 66; refine (HWK.out _ (HB.out.later hM.out.below) (HG.out.later hM.out.below) (HF.out.later hM.out.below)).mono ?_; rintro e w2 ⟨rfl, hb⟩; have hM2 := Lib.hid (hM.out.call hb); clear hb)
        go_roundw
        case rel => exact ⟨k + 1, q, by omega, by go_num, hM2, by rw [e.out, HV.out], by rw [e.out]; exact hQ⟩
        case measure => simp [intOf]; omega
      | true =>
        have e := Lib.hid (hyy hq2)
        rw [hq2] at HWK
        have HRK := Lib.hid (HR.out k hlt)
        have hr0 : Hid (mealR f g a k 0 = (k : Int)) := Lib.hid rfl
        obtain ⟨r, hr⟩ : ∃ r, mealR f g a k = r := ⟨_, rfl⟩
        rw [hr] at HRK hr0 e
        obtain ⟨p, hp⟩ : ∃ p, rkT t r = p := ⟨_, rfl⟩
        rw [hp] at HRK
        have HP := Lib.hid hp
        clear hq2 hyy hnn hr hp
        by_cases hlen : R.length = 0
        · have hv : chcV t R = -1 := by unfold chcV; rw [if_pos hlen]
          have hnew : Hid (chcV t (R ++ [r]) = (k : Int) ∧ p = rkT t (bL t (R ++ [r]))) := Lib.hid (by
            obtain rfl := List.length_eq_zero_iff.1 hlen
            exact ⟨by rw [← hr0.out]; rfl, by rw [← HP.out]; rfl⟩)
          rw [hv]
          clear hv hlen hin hQ hR
          obtain ⟨p0, hp0⟩ : ∃ p0, p 0 = p0 := ⟨_, rfl⟩
          obtain ⟨p1, hp1⟩ : ∃ p1, p 1 = p1 := ⟨_, rfl⟩
          obtain ⟨p2, hp2⟩ : ∃ p2, p 2 = p2 := ⟨_, rfl⟩
          obtain ⟨q0, hq0⟩ : ∃ q0, q 0 = q0 := ⟨_, rfl⟩
          obtain ⟨q1, hq1⟩ : ∃ q1, q 1 = q1 := ⟨_, rfl⟩
          obtain ⟨q2, hq2⟩ : ∃ q2, q 2 = q2 := ⟨_, rfl⟩
          have HP3 : Hid (r3 p = #[.int .i64 p0, .int .i64 p1, .int .i64 p2]) := Lib.hid (by unfold r3; rw [hp0, hp1, hp2])
          have HQ3 : Hid (r3 q = #[.int .i64 q0, .int .i64 q1, .int .i64 q2]) := Lib.hid (by unfold r3; rw [hq0, hq1, hq2])
          rw [HP3.out] at HRK
          rw [HQ3.out] at hM
          clear hp0 hp1 hp2 hq0 hq1 hq2
          by_cases l0 : p0 < q0
          · have d0 : decide (p0 < q0) = true := decide_eq_true l0
            clear l0
            go_upto_region 7 with (go_at_call 66; refine (HWK.out _ (HB.out.later hM.out.below) (HG.out.later hM.out.below) (HF.out.later hM.out.below)).mono ?_; rintro e w2 ⟨rfl, hb⟩; have M2 := hM.out.call hb; clear hb)
            go_upto_region 8 with (go_at_call 67; refine (HRK.out _ (HB.out.later M2.below) (HG.out.later M2.below) (HF.out.later M2.below)).mono ?_; rintro e w3 ⟨rfl, hb⟩; have M3 := M2.call hb; clear hb M2; have M4 := M3.alloc #[.int .i64 p0, .int .i64 p1, .int .i64 p2] 106)
            obtain ⟨ob, hob⟩ : ∃ ob, ob = w3.heap.size := ⟨_, rfl⟩
            rw [← hob] at M4 ⊢
            generalize World.alloc _ _ = W4 at M4 ⊢
            have x0 := (M4.at 1 rfl).cell (i := 0) rfl
            have x1 := (M4.at 1 rfl).cell (i := 1) rfl
            have x2 := (M4.at 1 rfl).cell (i := 2) rfl
            have y0 := (M4.at 0 rfl).cell (i := 0) rfl
            have y1 := (M4.at 0 rfl).cell (i := 1) rfl
            have y2 := (M4.at 0 rfl).cell (i := 2) rfl
            clear hob M3
            go_upto_region 11 with (fail)
            have M5 : Mem w W4 [⟨w.heap.size, r3 q, 106⟩, ⟨ob, r3 p, 106⟩] := by rw [HP3.out, HQ3.out]; exact M4
            clear x0 x1 x2 y0 y1 y2 M4
            go_wp2_with (first
              | (refine wpList_load_part rfl 106 _ rfl ob 0 rfl (r3 p) _ (M5.at 1 rfl).whole Tryd.underlying106 rfl size3 ?_)
              | (refine wpList_store_row rfl 106 _ _ rfl w.heap.size (r3 p) rfl rfl 106 _ (M5.at 0 rfl) size3 rfl (by simp [r3, Value.oneCell']) ?_))
            have M6 := Mem.init (L := [⟨w.heap.size, r3 p, 106⟩]) (M5.row 0 rfl (r3 p))
            go_roundw
            case rel => exact ⟨k + 1, p, by omega, by go_num, Lib.hid M6, by rw [e.out, hnew.out.1], Lib.hid (fun _ => by rw [e.out]; exact hnew.out.2)⟩
            case measure => simp [intOf]; omega
          · have d0 : decide (p0 < q0) = false := decide_eq_false l0
            by_cases n0 : p0 = q0
            · have e0 : (p0 == q0) = true := by simp [n0]
              by_cases l1 : p1 < q1
              · have d1 : decide (p1 < q1) = true := decide_eq_true l1
                clear l0 l1 n0
                go_upto_region 7 with (go_at_call 66; refine (HWK.out _ (HB.out.later hM.out.below) (HG.out.later hM.out.below) (HF.out.later hM.out.below)).mono ?_; rintro e w2 ⟨rfl, hb⟩; have M2 := hM.out.call hb; clear hb)
                go_upto_region 8 with (go_at_call 67; refine (HRK.out _ (HB.out.later M2.below) (HG.out.later M2.below) (HF.out.later M2.below)).mono ?_; rintro e w3 ⟨rfl, hb⟩; have M3 := M2.call hb; clear hb M2; have M4 := M3.alloc #[.int .i64 p0, .int .i64 p1, .int .i64 p2] 106)
                obtain ⟨ob, hob⟩ : ∃ ob, ob = w3.heap.size := ⟨_, rfl⟩
                rw [← hob] at M4 ⊢
                generalize World.alloc _ _ = W4 at M4 ⊢
                have x0 := (M4.at 1 rfl).cell (i := 0) rfl
                have x1 := (M4.at 1 rfl).cell (i := 1) rfl
                have x2 := (M4.at 1 rfl).cell (i := 2) rfl
                have y0 := (M4.at 0 rfl).cell (i := 0) rfl
                have y1 := (M4.at 0 rfl).cell (i := 1) rfl
                have y2 := (M4.at 0 rfl).cell (i := 2) rfl
                clear hob M3
                go_upto_region 11 with (fail)
                have M5 : Mem w W4 [⟨w.heap.size, r3 q, 106⟩, ⟨ob, r3 p, 106⟩] := by rw [HP3.out, HQ3.out]; exact M4
                clear x0 x1 x2 y0 y1 y2 M4
                go_wp2_with (first
                  | (refine wpList_load_part rfl 106 _ rfl ob 0 rfl (r3 p) _ (M5.at 1 rfl).whole Tryd.underlying106 rfl size3 ?_)
                  | (refine wpList_store_row rfl 106 _ _ rfl w.heap.size (r3 p) rfl rfl 106 _ (M5.at 0 rfl) size3 rfl (by simp [r3, Value.oneCell']) ?_))
                have M6 := Mem.init (L := [⟨w.heap.size, r3 p, 106⟩]) (M5.row 0 rfl (r3 p))
                go_roundw
                case rel => exact ⟨k + 1, p, by omega, by go_num, Lib.hid M6, by rw [e.out, hnew.out.1], Lib.hid (fun _ => by rw [e.out]; exact hnew.out.2)⟩
                case measure => simp [intOf]; omega
              · have d1 : decide (p1 < q1) = false := decide_eq_false l1
                by_cases n1 : p1 = q1
                · have e1 : (p1 == q1) = true := by simp [n1]
                  by_cases l2 : p2 < q2
                  · have d2 : decide (p2 < q2) = true := decide_eq_true l2
                    clear l0 l1 l2 n0 n1
                    go_upto_region 7 with (go_at_call 66; refine (HWK.out _ (HB.out.later hM.out.below) (HG.out.later hM.out.below) (HF.out.later hM.out.below)).mono ?_; rintro e w2 ⟨rfl, hb⟩; have M2 := hM.out.call hb; clear hb)
                    go_upto_region 8 with (go_at_call 67; refine (HRK.out _ (HB.out.later M2.below) (HG.out.later M2.below) (HF.out.later M2.below)).mono ?_; rintro e w3 ⟨rfl, hb⟩; have M3 := M2.call hb; clear hb M2; have M4 := M3.alloc #[.int .i64 p0, .int .i64 p1, .int .i64 p2] 106)
                    obtain ⟨ob, hob⟩ : ∃ ob, ob = w3.heap.size := ⟨_, rfl⟩
                    rw [← hob] at M4 ⊢
                    generalize World.alloc _ _ = W4 at M4 ⊢
                    have x0 := (M4.at 1 rfl).cell (i := 0) rfl
                    have x1 := (M4.at 1 rfl).cell (i := 1) rfl
                    have x2 := (M4.at 1 rfl).cell (i := 2) rfl
                    have y0 := (M4.at 0 rfl).cell (i := 0) rfl
                    have y1 := (M4.at 0 rfl).cell (i := 1) rfl
                    have y2 := (M4.at 0 rfl).cell (i := 2) rfl
                    clear hob M3
                    go_upto_region 11 with (fail)
                    have M5 : Mem w W4 [⟨w.heap.size, r3 q, 106⟩, ⟨ob, r3 p, 106⟩] := by rw [HP3.out, HQ3.out]; exact M4
                    clear x0 x1 x2 y0 y1 y2 M4
                    go_wp2_with (first
                      | (refine wpList_load_part rfl 106 _ rfl ob 0 rfl (r3 p) _ (M5.at 1 rfl).whole Tryd.underlying106 rfl size3 ?_)
                      | (refine wpList_store_row rfl 106 _ _ rfl w.heap.size (r3 p) rfl rfl 106 _ (M5.at 0 rfl) size3 rfl (by simp [r3, Value.oneCell']) ?_))
                    have M6 := Mem.init (L := [⟨w.heap.size, r3 p, 106⟩]) (M5.row 0 rfl (r3 p))
                    go_roundw
                    case rel => exact ⟨k + 1, p, by omega, by go_num, Lib.hid M6, by rw [e.out, hnew.out.1], Lib.hid (fun _ => by rw [e.out]; exact hnew.out.2)⟩
                    case measure => simp [intOf]; omega
                  · have d2 : decide (p2 < q2) = false := decide_eq_false l2
                    clear l0 l1 l2 n0 n1
                    go_upto_region 7 with (go_at_call 66; refine (HWK.out _ (HB.out.later hM.out.below) (HG.out.later hM.out.below) (HF.out.later hM.out.below)).mono ?_; rintro e w2 ⟨rfl, hb⟩; have M2 := hM.out.call hb; clear hb)
                    go_upto_region 8 with (go_at_call 67; refine (HRK.out _ (HB.out.later M2.below) (HG.out.later M2.below) (HF.out.later M2.below)).mono ?_; rintro e w3 ⟨rfl, hb⟩; have M3 := M2.call hb; clear hb M2; have M4 := M3.alloc #[.int .i64 p0, .int .i64 p1, .int .i64 p2] 106)
                    obtain ⟨ob, hob⟩ : ∃ ob, ob = w3.heap.size := ⟨_, rfl⟩
                    rw [← hob] at M4 ⊢
                    generalize World.alloc _ _ = W4 at M4 ⊢
                    have x0 := (M4.at 1 rfl).cell (i := 0) rfl
                    have x1 := (M4.at 1 rfl).cell (i := 1) rfl
                    have x2 := (M4.at 1 rfl).cell (i := 2) rfl
                    have y0 := (M4.at 0 rfl).cell (i := 0) rfl
                    have y1 := (M4.at 0 rfl).cell (i := 1) rfl
                    have y2 := (M4.at 0 rfl).cell (i := 2) rfl
                    clear hob M3
                    go_upto_region 11 with (fail)
                    have M5 : Mem w W4 [⟨w.heap.size, r3 q, 106⟩, ⟨ob, r3 p, 106⟩] := by rw [HP3.out, HQ3.out]; exact M4
                    clear x0 x1 x2 y0 y1 y2 M4
                    go_wp2_with (first
                      | (refine wpList_load_part rfl 106 _ rfl ob 0 rfl (r3 p) _ (M5.at 1 rfl).whole Tryd.underlying106 rfl size3 ?_)
                      | (refine wpList_store_row rfl 106 _ _ rfl w.heap.size (r3 p) rfl rfl 106 _ (M5.at 0 rfl) size3 rfl (by simp [r3, Value.oneCell']) ?_))
                    have M6 := Mem.init (L := [⟨w.heap.size, r3 p, 106⟩]) (M5.row 0 rfl (r3 p))
                    go_roundw
                    case rel => exact ⟨k + 1, p, by omega, by go_num, Lib.hid M6, by rw [e.out, hnew.out.1], Lib.hid (fun _ => by rw [e.out]; exact hnew.out.2)⟩
                    case measure => simp [intOf]; omega
                · have e1 : (p1 == q1) = false := by simp [n1]
                  clear l0 l1 n0 n1
                  go_upto_region 7 with (go_at_call 66; refine (HWK.out _ (HB.out.later hM.out.below) (HG.out.later hM.out.below) (HF.out.later hM.out.below)).mono ?_; rintro e w2 ⟨rfl, hb⟩; have M2 := hM.out.call hb; clear hb)
                  go_upto_region 8 with (go_at_call 67; refine (HRK.out _ (HB.out.later M2.below) (HG.out.later M2.below) (HF.out.later M2.below)).mono ?_; rintro e w3 ⟨rfl, hb⟩; have M3 := M2.call hb; clear hb M2; have M4 := M3.alloc #[.int .i64 p0, .int .i64 p1, .int .i64 p2] 106)
                  obtain ⟨ob, hob⟩ : ∃ ob, ob = w3.heap.size := ⟨_, rfl⟩
                  rw [← hob] at M4 ⊢
                  generalize World.alloc _ _ = W4 at M4 ⊢
                  have x0 := (M4.at 1 rfl).cell (i := 0) rfl
                  have x1 := (M4.at 1 rfl).cell (i := 1) rfl
                  have x2 := (M4.at 1 rfl).cell (i := 2) rfl
                  have y0 := (M4.at 0 rfl).cell (i := 0) rfl
                  have y1 := (M4.at 0 rfl).cell (i := 1) rfl
                  have y2 := (M4.at 0 rfl).cell (i := 2) rfl
                  clear hob M3
                  go_upto_region 11 with (fail)
                  have M5 : Mem w W4 [⟨w.heap.size, r3 q, 106⟩, ⟨ob, r3 p, 106⟩] := by rw [HP3.out, HQ3.out]; exact M4
                  clear x0 x1 x2 y0 y1 y2 M4
                  go_wp2_with (first
                    | (refine wpList_load_part rfl 106 _ rfl ob 0 rfl (r3 p) _ (M5.at 1 rfl).whole Tryd.underlying106 rfl size3 ?_)
                    | (refine wpList_store_row rfl 106 _ _ rfl w.heap.size (r3 p) rfl rfl 106 _ (M5.at 0 rfl) size3 rfl (by simp [r3, Value.oneCell']) ?_))
                  have M6 := Mem.init (L := [⟨w.heap.size, r3 p, 106⟩]) (M5.row 0 rfl (r3 p))
                  go_roundw
                  case rel => exact ⟨k + 1, p, by omega, by go_num, Lib.hid M6, by rw [e.out, hnew.out.1], Lib.hid (fun _ => by rw [e.out]; exact hnew.out.2)⟩
                  case measure => simp [intOf]; omega
            · have e0 : (p0 == q0) = false := by simp [n0]
              clear l0 n0
              go_upto_region 7 with (go_at_call 66; refine (HWK.out _ (HB.out.later hM.out.below) (HG.out.later hM.out.below) (HF.out.later hM.out.below)).mono ?_; rintro e w2 ⟨rfl, hb⟩; have M2 := hM.out.call hb; clear hb)
              go_upto_region 8 with (go_at_call 67; refine (HRK.out _ (HB.out.later M2.below) (HG.out.later M2.below) (HF.out.later M2.below)).mono ?_; rintro e w3 ⟨rfl, hb⟩; have M3 := M2.call hb; clear hb M2; have M4 := M3.alloc #[.int .i64 p0, .int .i64 p1, .int .i64 p2] 106)
              obtain ⟨ob, hob⟩ : ∃ ob, ob = w3.heap.size := ⟨_, rfl⟩
              rw [← hob] at M4 ⊢
              generalize World.alloc _ _ = W4 at M4 ⊢
              have x0 := (M4.at 1 rfl).cell (i := 0) rfl
              have x1 := (M4.at 1 rfl).cell (i := 1) rfl
              have x2 := (M4.at 1 rfl).cell (i := 2) rfl
              have y0 := (M4.at 0 rfl).cell (i := 0) rfl
              have y1 := (M4.at 0 rfl).cell (i := 1) rfl
              have y2 := (M4.at 0 rfl).cell (i := 2) rfl
              clear hob M3
              go_upto_region 11 with (fail)
              have M5 : Mem w W4 [⟨w.heap.size, r3 q, 106⟩, ⟨ob, r3 p, 106⟩] := by rw [HP3.out, HQ3.out]; exact M4
              clear x0 x1 x2 y0 y1 y2 M4
              go_wp2_with (first
                | (refine wpList_load_part rfl 106 _ rfl ob 0 rfl (r3 p) _ (M5.at 1 rfl).whole Tryd.underlying106 rfl size3 ?_)
                | (refine wpList_store_row rfl 106 _ _ rfl w.heap.size (r3 p) rfl rfl 106 _ (M5.at 0 rfl) size3 rfl (by simp [r3, Value.oneCell']) ?_))
              have M6 := Mem.init (L := [⟨w.heap.size, r3 p, 106⟩]) (M5.row 0 rfl (r3 p))
              go_roundw
              case rel => exact ⟨k + 1, p, by omega, by go_num, Lib.hid M6, by rw [e.out, hnew.out.1], Lib.hid (fun _ => by rw [e.out]; exact hnew.out.2)⟩
              case measure => simp [intOf]; omega
        · obtain ⟨i9, hi9, hb9⟩ := bL_mem t hlen
          obtain ⟨c9, hc9, _, hrow⟩ := hin i9 hi9
          have hv : chcV t R = (c9 : Int) := by unfold chcV; rw [if_neg hlen, hb9, hrow 0]; rfl
          have hqe : q = rkT t (bL t R) := hQ.out hlen
          have hsn := bL_snoc t hlen r
          have hln : (R ++ [r]).length ≠ 0 := by simp
          rw [← hqe, HP.out] at hsn
          have hyes : Hid (lessR p q = true → chcV t (R ++ [r]) = (k : Int) ∧ p = rkT t (bL t (R ++ [r]))) := Lib.hid (fun h => by
            rw [if_pos h] at hsn
            exact ⟨by unfold chcV; rw [if_neg hln, hsn, hr0.out], by rw [hsn, HP.out]⟩)
          have hno : Hid (lessR p q = false → chcV t (R ++ [r]) = (c9 : Int) ∧ q = rkT t (bL t (R ++ [r]))) := Lib.hid (fun h => by
            rw [if_neg (by rw [h]; decide)] at hsn
            exact ⟨by
              unfold chcV at hv ⊢
              rw [if_neg hlen] at hv
              rw [if_neg hln, hsn, hv], by rw [hsn]; exact hqe⟩)
          rw [hv]
          clear hv hlen hin hQ hR hi9 hb9 hrow hqe hsn hln
          obtain ⟨p0, hp0⟩ : ∃ p0, p 0 = p0 := ⟨_, rfl⟩
          obtain ⟨p1, hp1⟩ : ∃ p1, p 1 = p1 := ⟨_, rfl⟩
          obtain ⟨p2, hp2⟩ : ∃ p2, p 2 = p2 := ⟨_, rfl⟩
          obtain ⟨q0, hq0⟩ : ∃ q0, q 0 = q0 := ⟨_, rfl⟩
          obtain ⟨q1, hq1⟩ : ∃ q1, q 1 = q1 := ⟨_, rfl⟩
          obtain ⟨q2, hq2⟩ : ∃ q2, q 2 = q2 := ⟨_, rfl⟩
          have HP3 : Hid (r3 p = #[.int .i64 p0, .int .i64 p1, .int .i64 p2]) := Lib.hid (by unfold r3; rw [hp0, hp1, hp2])
          have HQ3 : Hid (r3 q = #[.int .i64 q0, .int .i64 q1, .int .i64 q2]) := Lib.hid (by unfold r3; rw [hq0, hq1, hq2])
          have hpv := Lib.hid (And.intro hp0 (And.intro hp1 hp2))
          have hqv := Lib.hid (And.intro hq0 (And.intro hq1 hq2))
          rw [HP3.out] at HRK
          rw [HQ3.out] at hM
          clear hp0 hp1 hp2 hq0 hq1 hq2
          by_cases l0 : p0 < q0
          · have d0 : decide (p0 < q0) = true := decide_eq_true l0
            have hnew := Lib.hid (hyes.out (by unfold lessR; rw [hpv.out.1, hqv.out.1, d0]; rfl))
            clear l0
            go_upto_region 7 with (go_at_call 66; refine (HWK.out _ (HB.out.later hM.out.below) (HG.out.later hM.out.below) (HF.out.later hM.out.below)).mono ?_; rintro e w2 ⟨rfl, hb⟩; have M2 := hM.out.call hb; clear hb)
            go_upto_region 8 with (go_at_call 67; refine (HRK.out _ (HB.out.later M2.below) (HG.out.later M2.below) (HF.out.later M2.below)).mono ?_; rintro e w3 ⟨rfl, hb⟩; have M3 := M2.call hb; clear hb M2; have M4 := M3.alloc #[.int .i64 p0, .int .i64 p1, .int .i64 p2] 106)
            obtain ⟨ob, hob⟩ : ∃ ob, ob = w3.heap.size := ⟨_, rfl⟩
            rw [← hob] at M4 ⊢
            generalize World.alloc _ _ = W4 at M4 ⊢
            have x0 := (M4.at 1 rfl).cell (i := 0) rfl
            have x1 := (M4.at 1 rfl).cell (i := 1) rfl
            have x2 := (M4.at 1 rfl).cell (i := 2) rfl
            have y0 := (M4.at 0 rfl).cell (i := 0) rfl
            have y1 := (M4.at 0 rfl).cell (i := 1) rfl
            have y2 := (M4.at 0 rfl).cell (i := 2) rfl
            clear hob M3
            go_upto_region 11 with (fail)
            have M5 : Mem w W4 [⟨w.heap.size, r3 q, 106⟩, ⟨ob, r3 p, 106⟩] := by rw [HP3.out, HQ3.out]; exact M4
            clear x0 x1 x2 y0 y1 y2 M4
            go_wp2_with (first
              | (refine wpList_load_part rfl 106 _ rfl ob 0 rfl (r3 p) _ (M5.at 1 rfl).whole Tryd.underlying106 rfl size3 ?_)
              | (refine wpList_store_row rfl 106 _ _ rfl w.heap.size (r3 p) rfl rfl 106 _ (M5.at 0 rfl) size3 rfl (by simp [r3, Value.oneCell']) ?_))
            have M6 := Mem.init (L := [⟨w.heap.size, r3 p, 106⟩]) (M5.row 0 rfl (r3 p))
            go_roundw
            case rel => exact ⟨k + 1, p, by omega, by go_num, Lib.hid M6, by rw [e.out, hnew.out.1], Lib.hid (fun _ => by rw [e.out]; exact hnew.out.2)⟩
            case measure => simp [intOf]; omega
          · have d0 : decide (p0 < q0) = false := decide_eq_false l0
            by_cases n0 : p0 = q0
            · have e0 : (p0 == q0) = true := by simp [n0]
              by_cases l1 : p1 < q1
              · have d1 : decide (p1 < q1) = true := decide_eq_true l1
                have hnew := Lib.hid (hyes.out (by unfold lessR; rw [hpv.out.1, hqv.out.1, hpv.out.2.1, hqv.out.2.1, d0, e0, d1]; rfl))
                clear l0 l1 n0
                go_upto_region 7 with (go_at_call 66; refine (HWK.out _ (HB.out.later hM.out.below) (HG.out.later hM.out.below) (HF.out.later hM.out.below)).mono ?_; rintro e w2 ⟨rfl, hb⟩; have M2 := hM.out.call hb; clear hb)
                go_upto_region 8 with (go_at_call 67; refine (HRK.out _ (HB.out.later M2.below) (HG.out.later M2.below) (HF.out.later M2.below)).mono ?_; rintro e w3 ⟨rfl, hb⟩; have M3 := M2.call hb; clear hb M2; have M4 := M3.alloc #[.int .i64 p0, .int .i64 p1, .int .i64 p2] 106)
                obtain ⟨ob, hob⟩ : ∃ ob, ob = w3.heap.size := ⟨_, rfl⟩
                rw [← hob] at M4 ⊢
                generalize World.alloc _ _ = W4 at M4 ⊢
                have x0 := (M4.at 1 rfl).cell (i := 0) rfl
                have x1 := (M4.at 1 rfl).cell (i := 1) rfl
                have x2 := (M4.at 1 rfl).cell (i := 2) rfl
                have y0 := (M4.at 0 rfl).cell (i := 0) rfl
                have y1 := (M4.at 0 rfl).cell (i := 1) rfl
                have y2 := (M4.at 0 rfl).cell (i := 2) rfl
                clear hob M3
                go_upto_region 11 with (fail)
                have M5 : Mem w W4 [⟨w.heap.size, r3 q, 106⟩, ⟨ob, r3 p, 106⟩] := by rw [HP3.out, HQ3.out]; exact M4
                clear x0 x1 x2 y0 y1 y2 M4
                go_wp2_with (first
                  | (refine wpList_load_part rfl 106 _ rfl ob 0 rfl (r3 p) _ (M5.at 1 rfl).whole Tryd.underlying106 rfl size3 ?_)
                  | (refine wpList_store_row rfl 106 _ _ rfl w.heap.size (r3 p) rfl rfl 106 _ (M5.at 0 rfl) size3 rfl (by simp [r3, Value.oneCell']) ?_))
                have M6 := Mem.init (L := [⟨w.heap.size, r3 p, 106⟩]) (M5.row 0 rfl (r3 p))
                go_roundw
                case rel => exact ⟨k + 1, p, by omega, by go_num, Lib.hid M6, by rw [e.out, hnew.out.1], Lib.hid (fun _ => by rw [e.out]; exact hnew.out.2)⟩
                case measure => simp [intOf]; omega
              · have d1 : decide (p1 < q1) = false := decide_eq_false l1
                by_cases n1 : p1 = q1
                · have e1 : (p1 == q1) = true := by simp [n1]
                  by_cases l2 : p2 < q2
                  · have d2 : decide (p2 < q2) = true := decide_eq_true l2
                    have hnew := Lib.hid (hyes.out (by unfold lessR; rw [hpv.out.1, hqv.out.1, hpv.out.2.1, hqv.out.2.1, hpv.out.2.2, hqv.out.2.2, d0, e0, d1, e1, d2]; rfl))
                    clear l0 l1 l2 n0 n1
                    go_upto_region 7 with (go_at_call 66; refine (HWK.out _ (HB.out.later hM.out.below) (HG.out.later hM.out.below) (HF.out.later hM.out.below)).mono ?_; rintro e w2 ⟨rfl, hb⟩; have M2 := hM.out.call hb; clear hb)
                    go_upto_region 8 with (go_at_call 67; refine (HRK.out _ (HB.out.later M2.below) (HG.out.later M2.below) (HF.out.later M2.below)).mono ?_; rintro e w3 ⟨rfl, hb⟩; have M3 := M2.call hb; clear hb M2; have M4 := M3.alloc #[.int .i64 p0, .int .i64 p1, .int .i64 p2] 106)
                    obtain ⟨ob, hob⟩ : ∃ ob, ob = w3.heap.size := ⟨_, rfl⟩
                    rw [← hob] at M4 ⊢
                    generalize World.alloc _ _ = W4 at M4 ⊢
                    have x0 := (M4.at 1 rfl).cell (i := 0) rfl
                    have x1 := (M4.at 1 rfl).cell (i := 1) rfl
                    have x2 := (M4.at 1 rfl).cell (i := 2) rfl
                    have y0 := (M4.at 0 rfl).cell (i := 0) rfl
                    have y1 := (M4.at 0 rfl).cell (i := 1) rfl
                    have y2 := (M4.at 0 rfl).cell (i := 2) rfl
                    clear hob M3
                    go_upto_region 11 with (fail)
                    have M5 : Mem w W4 [⟨w.heap.size, r3 q, 106⟩, ⟨ob, r3 p, 106⟩] := by rw [HP3.out, HQ3.out]; exact M4
                    clear x0 x1 x2 y0 y1 y2 M4
                    go_wp2_with (first
                      | (refine wpList_load_part rfl 106 _ rfl ob 0 rfl (r3 p) _ (M5.at 1 rfl).whole Tryd.underlying106 rfl size3 ?_)
                      | (refine wpList_store_row rfl 106 _ _ rfl w.heap.size (r3 p) rfl rfl 106 _ (M5.at 0 rfl) size3 rfl (by simp [r3, Value.oneCell']) ?_))
                    have M6 := Mem.init (L := [⟨w.heap.size, r3 p, 106⟩]) (M5.row 0 rfl (r3 p))
                    go_roundw
                    case rel => exact ⟨k + 1, p, by omega, by go_num, Lib.hid M6, by rw [e.out, hnew.out.1], Lib.hid (fun _ => by rw [e.out]; exact hnew.out.2)⟩
                    case measure => simp [intOf]; omega
                  · have d2 : decide (p2 < q2) = false := decide_eq_false l2
                    have hold := Lib.hid (hno.out (by unfold lessR; rw [hpv.out.1, hqv.out.1, hpv.out.2.1, hqv.out.2.1, hpv.out.2.2, hqv.out.2.2, d0, e0, d1, e1, d2]; rfl))
                    clear l0 l1 l2 n0 n1
                    go_upto_region 7 with (go_at_call 66; refine (HWK.out _ (HB.out.later hM.out.below) (HG.out.later hM.out.below) (HF.out.later hM.out.below)).mono ?_; rintro e w2 ⟨rfl, hb⟩; have M2 := hM.out.call hb; clear hb)
                    go_upto_region 8 with (go_at_call 67; refine (HRK.out _ (HB.out.later M2.below) (HG.out.later M2.below) (HF.out.later M2.below)).mono ?_; rintro e w3 ⟨rfl, hb⟩; have M3 := M2.call hb; clear hb M2; have M4 := M3.alloc #[.int .i64 p0, .int .i64 p1, .int .i64 p2] 106)
                    obtain ⟨ob, hob⟩ : ∃ ob, ob = w3.heap.size := ⟨_, rfl⟩
                    rw [← hob] at M4 ⊢
                    generalize World.alloc _ _ = W4 at M4 ⊢
                    have x0 := (M4.at 1 rfl).cell (i := 0) rfl
                    have x1 := (M4.at 1 rfl).cell (i := 1) rfl
                    have x2 := (M4.at 1 rfl).cell (i := 2) rfl
                    have y0 := (M4.at 0 rfl).cell (i := 0) rfl
                    have y1 := (M4.at 0 rfl).cell (i := 1) rfl
                    have y2 := (M4.at 0 rfl).cell (i := 2) rfl
                    clear hob M3
                    go_wp2_with fail
                    have M5 := Mem.init (L := [⟨w.heap.size, #[.int .i64 q0, .int .i64 q1, .int .i64 q2], 106⟩]) M4
                    go_roundw
                    case rel => exact ⟨k + 1, q, by omega, by go_num, by rw [HQ3.out]; exact Lib.hid M5, by rw [e.out, hold.out.1], Lib.hid (fun _ => by rw [e.out]; exact hold.out.2)⟩
                    case measure => simp [intOf]; omega
                · have e1 : (p1 == q1) = false := by simp [n1]
                  have hold := Lib.hid (hno.out (by unfold lessR; rw [hpv.out.1, hqv.out.1, hpv.out.2.1, hqv.out.2.1, d0, e0, d1, e1]; rfl))
                  clear l0 l1 n0 n1
                  go_upto_region 7 with (go_at_call 66; refine (HWK.out _ (HB.out.later hM.out.below) (HG.out.later hM.out.below) (HF.out.later hM.out.below)).mono ?_; rintro e w2 ⟨rfl, hb⟩; have M2 := hM.out.call hb; clear hb)
                  go_upto_region 8 with (go_at_call 67; refine (HRK.out _ (HB.out.later M2.below) (HG.out.later M2.below) (HF.out.later M2.below)).mono ?_; rintro e w3 ⟨rfl, hb⟩; have M3 := M2.call hb; clear hb M2; have M4 := M3.alloc #[.int .i64 p0, .int .i64 p1, .int .i64 p2] 106)
                  obtain ⟨ob, hob⟩ : ∃ ob, ob = w3.heap.size := ⟨_, rfl⟩
                  rw [← hob] at M4 ⊢
                  generalize World.alloc _ _ = W4 at M4 ⊢
                  have x0 := (M4.at 1 rfl).cell (i := 0) rfl
                  have x1 := (M4.at 1 rfl).cell (i := 1) rfl
                  have x2 := (M4.at 1 rfl).cell (i := 2) rfl
                  have y0 := (M4.at 0 rfl).cell (i := 0) rfl
                  have y1 := (M4.at 0 rfl).cell (i := 1) rfl
                  have y2 := (M4.at 0 rfl).cell (i := 2) rfl
                  clear hob M3
                  go_wp2_with fail
                  have M5 := Mem.init (L := [⟨w.heap.size, #[.int .i64 q0, .int .i64 q1, .int .i64 q2], 106⟩]) M4
                  go_roundw
                  case rel => exact ⟨k + 1, q, by omega, by go_num, by rw [HQ3.out]; exact Lib.hid M5, by rw [e.out, hold.out.1], Lib.hid (fun _ => by rw [e.out]; exact hold.out.2)⟩
                  case measure => simp [intOf]; omega
            · have e0 : (p0 == q0) = false := by simp [n0]
              have hold := Lib.hid (hno.out (by unfold lessR; rw [hpv.out.1, hqv.out.1, d0, e0]; rfl))
              clear l0 n0
              go_upto_region 7 with (go_at_call 66; refine (HWK.out _ (HB.out.later hM.out.below) (HG.out.later hM.out.below) (HF.out.later hM.out.below)).mono ?_; rintro e w2 ⟨rfl, hb⟩; have M2 := hM.out.call hb; clear hb)
              go_upto_region 8 with (go_at_call 67; refine (HRK.out _ (HB.out.later M2.below) (HG.out.later M2.below) (HF.out.later M2.below)).mono ?_; rintro e w3 ⟨rfl, hb⟩; have M3 := M2.call hb; clear hb M2; have M4 := M3.alloc #[.int .i64 p0, .int .i64 p1, .int .i64 p2] 106)
              obtain ⟨ob, hob⟩ : ∃ ob, ob = w3.heap.size := ⟨_, rfl⟩
              rw [← hob] at M4 ⊢
              generalize World.alloc _ _ = W4 at M4 ⊢
              have x0 := (M4.at 1 rfl).cell (i := 0) rfl
              have x1 := (M4.at 1 rfl).cell (i := 1) rfl
              have x2 := (M4.at 1 rfl).cell (i := 2) rfl
              have y0 := (M4.at 0 rfl).cell (i := 0) rfl
              have y1 := (M4.at 0 rfl).cell (i := 1) rfl
              have y2 := (M4.at 0 rfl).cell (i := 2) rfl
              clear hob M3
              go_wp2_with fail
              have M5 := Mem.init (L := [⟨w.heap.size, #[.int .i64 q0, .int .i64 q1, .int .i64 q2], 106⟩]) M4
              go_roundw
              case rel => exact ⟨k + 1, q, by omega, by go_num, by rw [HQ3.out]; exact Lib.hid M5, by rw [e.out, hold.out.1], Lib.hid (fun _ => by rw [e.out]; exact hold.out.2)⟩
              case measure => simp [intOf]; omega
    · obtain rfl : k = 100 := by omega
      obtain ⟨v, hv⟩ : ∃ v, chcV t (mealsR f g a 100) = v := ⟨_, rfl⟩
      have HV := Lib.hid hv
      rw [hv]
      clear hv
      go_wp2_with fail
      go_ret
      exact ⟨by rw [HV.out]; rfl, hM.out.below⟩
end Go.Proofs.YtaioflkonpommaaDoor
