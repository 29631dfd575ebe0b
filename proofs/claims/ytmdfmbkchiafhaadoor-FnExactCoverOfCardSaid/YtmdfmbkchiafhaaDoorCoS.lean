/-
  The cover of a cell: the model's.
-/
import Derived.Test.YtmdfmbkchiafhaaDoorCov
import Derived.Test.YtmdfmbkchiafhaaDoorCoreD
namespace Go.Proofs.YtmdfmbkchiafhaaDoor
open Go Go.RowKit

def coCode (f : Fd) (c x y : Int) : Int := if asked f c (inB x 1 1000 && inB y 1 1000) = 0 then (if f.K c.toNat = 3 then 4 else 0) else asked f c (inB x 1 1000 && inB y 1 1000)
def coVal (f : Fd) (c x y : Int) : Nat → Int := if coCode f c x y = 0 then cvS f c.toNat x y else fun _ => 0
set_option maxRecDepth 100000 in
set_option maxHeartbeats 4000000 in
theorem l03Cover_any (f : Fd) (hf : f.Wf) (p : Nat) (hp : p < 100) (hc : isCell f (p : Int) = true) (hK : f.K p ≠ 3) (x y : Int) (hx : 1 ≤ x ∧ x ≤ 1000) (hy : 1 ≤ y ∧ y ≤ 1000) (b : Nat) (w : World) (B : Blk w b (fcells f) 34) :
    Calls Tryd.prog 61 #[.pointer (some ⟨b, 0, none⟩), .int .i64 (p : Int), .int .i64 x, .int .i64 y] w fun e w' => e = .returned (.agg (acells .u64 2 (cvS f p x y))) ∧ Below w.heap.size w w' := by
  have HB := Lib.hid B
  have HLV := Lib.hid (fun (k : Nat) (hk : k < 100) (w : World) B => l03Covers_any f hf p hp k hk x y hx hy b w B)
  have HQ : Hid (∀ k : Nat, k < 100 → (isCell f (p : Int) && cvrQ f k x y p) = (isCell f (k : Int) && cvQ f p x y k)) := Lib.hid (fun k hk => by
    unfold cvrQ cvS
    rw [hc, Bool.true_and, show (f.K p != 3) = true by simpa using hK, Bool.true_and, hasC_want f _ hk, decide_eq_true hk, Bool.true_and])
  unfold cvS
  obtain ⟨q, hq⟩ : ∃ q, cvQ f p x y = q := ⟨_, rfl⟩
  rw [hq] at HQ ⊢
  clear B hq hc hK
  go_enter Tryd.func61, Tryd.ntmps61
  go_upto_region 2 with (fail)
  rw [zero2]
  obtain ⟨W, hW, M⟩ := open2 w (acells .u64 2 (fun _ => 0)) 38 (acells .u64 2 (fun _ => 0)) 38
  rw [hW]; clear hW
  go_wp2_with fail
  have M0 : Mem w W [⟨w.heap.size, acells .u64 2 (fun _ => 0), 38⟩, ⟨w.heap.size + 1, acells .u64 2 (wantSet f q 0), 38⟩] := M
  clear M
  go_loopw [10] (fun i wr => ∃ k : Nat, k ≤ 100 ∧ i = .int .i64 k ∧ Hid (Mem w wr [⟨w.heap.size, acells .u64 2 (fun _ => 0), 38⟩, ⟨w.heap.size + 1, acells .u64 2 (wantSet f q k), 38⟩])) (fun i _ => 100 - (intOf i).toNat)
  case atStart => exact ⟨0, by omega, rfl, Lib.hid M0⟩
  case round =>
    clear M0
    obtain ⟨k, hk', rfl, hM⟩ := hrel
    by_cases hlt : k < 100
    · have he := HQ.out k hlt
      cases hq2 : (isCell f (k : Int) && q k) with
      | false =>
        have hno : Hid (wantSet f q (k + 1) = wantSet f q k) := Lib.hid (wantSet_no hq2)
        have HE : Hid ((isCell f (p : Int) && cvrQ f k x y p) = false) := Lib.hid (he.trans hq2)
        clear he hq2
        go_wp2_with (go_at_call 56; refine (HLV.out k hlt _ (HB.out.later hM.out.below)).mono ?_; rintro e w' ⟨rfl, rfl⟩; rw [HE.out])
        go_roundw
        case rel => exact ⟨k + 1, by omega, by go_num, by rw [hno.out]; exact hM⟩
        case measure => simp [intOf]; omega
      | true =>
        have hqq : isCell f (k : Int) = true ∧ q k = true := by simpa using hq2
        have hyes : Hid (wantSet f q (k + 1) = putC (wantSet f q k) k) := Lib.hid (wantSet_yes hqq.1 hqq.2)
        have HE : Hid ((isCell f (p : Int) && cvrQ f k x y p) = true) := Lib.hid (he.trans hq2)
        obtain ⟨h9, hh9⟩ : ∃ h9, wantSet f q k = h9 := ⟨_, rfl⟩
        rw [hh9] at hM hyes
        clear he hq2 hqq hh9
        go_wp2_with (first
          | (go_at_call 56; refine (HLV.out k hlt _ (HB.out.later hM.out.below)).mono ?_; rintro e w' ⟨rfl, rfl⟩; rw [HE.out])
          | (go_at_call 57; refine (l01Put_any h9 k hlt _ _ (hM.out.at 1 rfl)).mono ?_; rintro e w3 ⟨⟨_, rfl⟩, i, vv, hw2, hset⟩; have M4 := Lib.hid (hM.out.set 1 i vv rfl _ hset).drew; rw [hw2] at M4))
        go_roundw
        case rel => exact ⟨k + 1, by omega, by go_num, by rw [hyes.out]; exact M4⟩
        case measure => simp [intOf]; omega
    · obtain rfl : k = 100 := by omega
      obtain ⟨h9, hh9⟩ : ∃ h9, wantSet f q 100 = h9 := ⟨_, rfl⟩
      have HH := Lib.hid hh9
      rw [hh9] at hM
      clear hh9
      go_wp2_with (first
        | (refine wpList_load_part rfl 38 _ rfl (w.heap.size + 1) 0 rfl (acells .u64 2 h9) _ (hM.out.at 1 rfl).whole Tryd.underlying38 rfl (by rw [acells_size]; exact sizeC) ?_)
        | (refine wpList_store_row rfl 38 _ _ rfl w.heap.size (acells .u64 2 h9) rfl rfl 38 _ (hM.out.at 0 rfl) (by rw [acells_size]; exact sizeC) (by simp only [acells_size]) (acells_one _ _ _) ?_))
      have M2 := hM.out.row 0 rfl (acells .u64 2 h9)
      exact bodyPost_ret (results_cell_row rfl _ _ w.heap.size 38 _ _ _ rfl (M2.at 0 rfl) Tryd.underlying38 rfl (by rw [acells_size]; exact sizeC)) rfl ⟨by rw [HH.out], M2.below⟩
set_option maxRecDepth 100000 in
set_option maxHeartbeats 4000000 in
theorem specCoverOf (f : Fd) (hf : f.Wf) (c x y : Int) (w : World) :
    Calls Tryd.prog 25 #[.agg (fcells f), .int .i64 c, .int .i64 x, .int .i64 y] w fun e w' => e = .returned (.tuple #[.agg (acells .u64 2 (coVal f c x y)), .int .i64 (coCode f c x y)]) ∧ Below w.heap.size w w' := by
  obtain ⟨q, hq⟩ : ∃ q, (inB x 1 1000 && inB y 1 1000) = q := ⟨_, rfl⟩
  have HQ := Lib.hid hq
  have bad : ∀ k : Int, k ≠ 0 → asked f c q = k → Calls Tryd.prog 25 #[.agg (fcells f), .int .i64 c, .int .i64 x, .int .i64 y] w fun e w' => e = .returned (.tuple #[.agg (acells .u64 2 (coVal f c x y)), .int .i64 (coCode f c x y)]) ∧ Below w.heap.size w w' := by
    intro k hk0 hk
    have hcc : coCode f c x y = k := by unfold coCode; rw [hq, hk, if_neg hk0]
    have hV : coVal f c x y = fun _ => 0 := by unfold coVal; rw [hcc, if_neg hk0]
    rw [hV, hcc]
    have HC := Lib.hid hk
    have hkb : (k != 0) = true := by simpa using hk0
    clear hk hk0 hV hcc hq
    go_enter Tryd.func25, Tryd.ntmps25
    go_upto_region 1 with (fail)
    rw [zero2]
    obtain ⟨W, hW, M⟩ := open2 w (fcells f) 34 (acells .u64 2 (fun _ => 0)) 38
    rw [hW]; clear hW
    go_wp2_with (first
      | (go_at_call 55; refine (l03Numbers_any x y _).mono ?_; rintro e w1 ⟨rfl, rfl⟩; rw [HQ.out])
      | (go_at_call 54; refine (l01Asked_any f hf c q w.heap.size _ (M.at 0 rfl)).mono ?_; rintro e w1 ⟨rfl, rfl⟩; rw [HC.out])
      | (refine wpList_store_row rfl 38 _ _ rfl (w.heap.size + 1) (acells .u64 2 (fun _ => 0)) rfl rfl 38 _ (M.at 1 rfl) (by rw [acells_size]; exact sizeC) (by simp only [acells_size]) (acells_one _ _ _) ?_))
    have M3 := M.row 1 rfl (acells .u64 2 (fun _ => 0))
    exact bodyPost_ret (results_row_tmp rfl _ _ (w.heap.size + 1) 38 _ _ _ rfl (M3.at 1 rfl) Tryd.underlying38 rfl (by rw [acells_size]; exact sizeC)) rfl ⟨rfl, M3.below⟩
  rcases asked_cases f c q with ⟨h0, hok, hcl, hqt⟩ | ⟨h0, _⟩ | ⟨h0, _⟩
  · subst hqt
    obtain ⟨c9, hc9, rfl⟩ := cell_nat hcl
    have hxy : inB x 1 1000 = true ∧ inB y 1 1000 = true := by simpa using hq
    have HC := Lib.hid h0
    have hKb := hf.K c9 hc9
    by_cases hK : f.K c9 = 3
    · have hcc : coCode f (c9 : Int) x y = 4 := by unfold coCode; rw [hq, h0, if_pos rfl, Int.toNat_natCast, if_pos hK]
      have hV : coVal f (c9 : Int) x y = fun _ => 0 := by unfold coVal; rw [hcc, if_neg (by decide)]
      rw [hV, hcc]
      have hkk : (f.K c9 == 3) = true := by simpa using hK
      clear bad hcc hV h0 hq hK
      go_enter Tryd.func25, Tryd.ntmps25
      go_upto_region 1 with (fail)
      rw [zero2]
      obtain ⟨W, hW, M⟩ := open2 w (fcells f) 34 (acells .u64 2 (fun _ => 0)) 38
      rw [hW]; clear hW
      have cK := (M.at 0 rfl).cell (fcells_K f c9 hc9)
      have hc1 : (c9 : Int) < 100 := by omega
      go_wp2_with (first
        | (go_at_call 55; refine (l03Numbers_any x y _).mono ?_; rintro e w1 ⟨rfl, rfl⟩; rw [HQ.out])
        | (go_at_call 54; refine (l01Asked_any f hf (c9 : Int) true w.heap.size _ (M.at 0 rfl)).mono ?_; rintro e w1 ⟨rfl, rfl⟩; rw [HC.out])
        | (refine wpList_store_row rfl 38 _ _ rfl (w.heap.size + 1) (acells .u64 2 (fun _ => 0)) rfl rfl 38 _ (M.at 1 rfl) (by rw [acells_size]; exact sizeC) (by simp only [acells_size]) (acells_one _ _ _) ?_))
      have M3 := M.row 1 rfl (acells .u64 2 (fun _ => 0))
      exact bodyPost_ret (results_row_tmp rfl _ _ (w.heap.size + 1) 38 _ _ _ rfl (M3.at 1 rfl) Tryd.underlying38 rfl (by rw [acells_size]; exact sizeC)) rfl ⟨rfl, M3.below⟩
    · have hcc : coCode f (c9 : Int) x y = 0 := by unfold coCode; rw [hq, h0, if_pos rfl, Int.toNat_natCast, if_neg hK]
      have hV : coVal f (c9 : Int) x y = cvS f c9 x y := by unfold coVal; rw [hcc, if_pos rfl, Int.toNat_natCast]
      rw [hV, hcc]
      have hx := inB_iff.1 hxy.1
      have hy := inB_iff.1 hxy.2
      have HLC := Lib.hid (fun (b : Nat) (w : World) B => l03Cover_any f hf c9 hc9 hcl hK x y hx hy b w B)
      obtain ⟨g9, hg9⟩ : ∃ g9, cvS f c9 x y = g9 := ⟨_, rfl⟩
      rw [hg9] at HLC ⊢
      have hkk : (f.K c9 == 3) = false := by simpa using hK
      clear bad hcc hV h0 hq hK hg9 hxy hx hy
      go_enter Tryd.func25, Tryd.ntmps25
      go_upto_region 1 with (fail)
      rw [zero2]
      obtain ⟨W, hW, M⟩ := open2 w (fcells f) 34 (acells .u64 2 (fun _ => 0)) 38
      rw [hW]; clear hW
      have cK := (M.at 0 rfl).cell (fcells_K f c9 hc9)
      have hc1 : (c9 : Int) < 100 := by omega
      go_wp2_with (first
        | (go_at_call 55; refine (l03Numbers_any x y _).mono ?_; rintro e w1 ⟨rfl, rfl⟩; rw [HQ.out])
        | (go_at_call 54; refine (l01Asked_any f hf (c9 : Int) true w.heap.size _ (M.at 0 rfl)).mono ?_; rintro e w1 ⟨rfl, rfl⟩; rw [HC.out])
        | (go_at_call 61; refine (HLC.out w.heap.size _ (M.at 0 rfl)).mono ?_; rintro e W2 ⟨rfl, hb⟩; have M2 := M.call hb; clear hb)
        | (refine wpList_store_row rfl 38 _ _ rfl (w.heap.size + 1) (acells .u64 2 g9) rfl rfl 38 _ (M2.at 1 rfl) (by rw [acells_size]; exact sizeC) (by simp only [acells_size]) (acells_one _ _ _) ?_))
      have M3 := M2.row 1 rfl (acells .u64 2 g9)
      exact bodyPost_ret (results_row_tmp rfl _ _ (w.heap.size + 1) 38 _ _ _ rfl (M3.at 1 rfl) Tryd.underlying38 rfl (by rw [acells_size]; exact sizeC)) rfl ⟨rfl, M3.below⟩
  · exact bad 1 (by decide) h0
  · exact bad 2 (by decide) h0
end Go.Proofs.YtmdfmbkchiafhaaDoor
