/-
  The cover of a cell: the model's.
-/
import Derived.Test.YteclngooblafoaaDoorCov
import Derived.Test.YteclngooblafoaaDoorCoreD
namespace Go.Proofs.YteclngooblafoaaDoor
open Go Go.RowKit

def coCode (f : Fd) (c x y : Int) : Int := if asked f c (inB x 1 1000 && inB y 1 1000) = 0 then (if f.K c.toNat = 3 then 4 else 0) else asked f c (inB x 1 1000 && inB y 1 1000)
def coVal (f : Fd) (c x y : Int) : Nat → Int := if coCode f c x y = 0 then cvS f c.toNat x y else fun _ => 0
set_option maxRecDepth 100000 in
set_option maxHeartbeats 4000000 in
theorem l03Cover_any (f : Fd) (hf : f.Wf) (p : Nat) (hp : p < 100) (hc : isCell f (p : Int) = true) (hK : f.K p ≠ 3) (x y : Int) (hx : 1 ≤ x ∧ x ≤ 1000) (hy : 1 ≤ y ∧ y ≤ 1000) (b : Nat) (w : World) (B : Blk w b (fcells f) 33) :
    Calls Tryd.prog 22 #[.pointer (some ⟨b, 0, none⟩), .int .i64 (p : Int), .int .i64 x, .int .i64 y] w fun e w' => e = .returned (.agg (acells .u64 2 (cvS f p x y))) ∧ Below w.heap.size w w' := by
  have HB := Lib.hid B
  have HLV := Lib.hid (fun (k : Nat) (hk : k < 100) (w : World) B => l03Covers_any f hf p hp k hk x y hx hy b w B)
  have HQ : Hid (∀ k : Nat, k < 100 → (isCell f (p : Int) && cvrQ f k x y p) = (isCell f (k : Int) && cvQ f p x y k)) := Lib.hid (fun k hk => by
    unfold cvrQ cvS
    rw [hc, Bool.true_and, show (f.K p != 3) = true by simpa using hK, Bool.true_and, hasC_want f _ hk, decide_eq_true hk, Bool.true_and])
  unfold cvS
  obtain ⟨q, hq⟩ : ∃ q, cvQ f p x y = q := ⟨_, rfl⟩
  rw [hq] at HQ ⊢
  clear B hq hc hK
  go_enter Tryd.func22, Tryd.ntmps22
  go_upto_region 2 with (fail)
  rw [zero2]
  obtain ⟨W, hW, M⟩ := open2 w (acells .u64 2 (fun _ => 0)) 35 (acells .u64 2 (fun _ => 0)) 35
  rw [hW]; clear hW
  go_wp2_with fail
  have M0 : Mem w W [⟨w.heap.size, acells .u64 2 (fun _ => 0), 35⟩, ⟨w.heap.size + 1, acells .u64 2 (wantSet f q 0), 35⟩] := M
  clear M
  go_loopw [10] (fun i wr => ∃ k : Nat, k ≤ 100 ∧ i = .int .i64 k ∧ Hid (Mem w wr [⟨w.heap.size, acells .u64 2 (fun _ => 0), 35⟩, ⟨w.heap.size + 1, acells .u64 2 (wantSet f q k), 35⟩])) (fun i _ => 100 - (intOf i).toNat)
  case atStart => exact ⟨0, by omega, rfl, Lib.hid M0⟩
  case round =>
    clear M0
    obtain ⟨k, hk', rfl, hM⟩ := hrel
    by_cases hlt : k < 100
    · have he := HQ.out k hlt
      cases hq2 : (isCell f (k : Int) && q k) with
      | false =>
        have hno : Hid (wantSet f q (k + 1) = wantSet f q k) := Lib.hid (wantSet_no hq2)
        have HE : Hid ((isCell f (p : Int) && cvrQ f k x y p) = false) := Lib.hid (he.trans hq2)
        clear he hq2
        go_wp2_with (go_at_call 45; refine (HLV.out k hlt _ (HB.out.later hM.out.below)).mono ?_; rintro e w' ⟨rfl, rfl⟩; rw [HE.out])
        go_roundw
        case rel => exact ⟨k + 1, by omega, by go_num, by rw [hno.out]; exact hM⟩
        case measure => simp [intOf]; omega
      | true =>
        have hqq : isCell f (k : Int) = true ∧ q k = true := by simpa using hq2
        have hyes : Hid (wantSet f q (k + 1) = putC (wantSet f q k) k) := Lib.hid (wantSet_yes hqq.1 hqq.2)
        have HE : Hid ((isCell f (p : Int) && cvrQ f k x y p) = true) := Lib.hid (he.trans hq2)
        obtain ⟨h9, hh9⟩ : ∃ h9, wantSet f q k = h9 := ⟨_, rfl⟩
        rw [hh9] at hM hyes
        clear he hq2 hqq hh9
        go_wp2_with (first
          | (go_at_call 45; refine (HLV.out k hlt _ (HB.out.later hM.out.below)).mono ?_; rintro e w' ⟨rfl, rfl⟩; rw [HE.out])
          | (go_at_call 46; refine (l01Put_any h9 k hlt _ _ (hM.out.at 1 rfl)).mono ?_; rintro e w3 ⟨⟨_, rfl⟩, i, vv, hw2, hset⟩; have M4 := Lib.hid (hM.out.set 1 i vv rfl _ hset).drew; rw [hw2] at M4))
        go_roundw
        case rel => exact ⟨k + 1, by omega, by go_num, by rw [hyes.out]; exact M4⟩
        case measure => simp [intOf]; omega
    · obtain rfl : k = 100 := by omega
      obtain ⟨h9, hh9⟩ : ∃ h9, wantSet f q 100 = h9 := ⟨_, rfl⟩
      have HH := Lib.hid hh9
      rw [hh9] at hM
      clear hh9
      go_wp2_with (first
        | (refine wpList_load_part rfl 35 _ rfl (w.heap.size + 1) 0 rfl (acells .u64 2 h9) _ (hM.out.at 1 rfl).whole Tryd.underlying35 rfl (by rw [acells_size]; exact sizeC) ?_)
        | (refine wpList_store_row rfl 35 _ _ rfl w.heap.size (acells .u64 2 h9) rfl rfl 35 _ (hM.out.at 0 rfl) (by rw [acells_size]; exact sizeC) (by simp only [acells_size]) (acells_one _ _ _) ?_))
      have M2 := hM.out.row 0 rfl (acells .u64 2 h9)
      exact bodyPost_ret (results_cell_row rfl _ _ w.heap.size 35 _ _ _ rfl (M2.at 0 rfl) Tryd.underlying35 rfl (by rw [acells_size]; exact sizeC)) rfl ⟨by rw [HH.out], M2.below⟩
end Go.Proofs.YteclngooblafoaaDoor
