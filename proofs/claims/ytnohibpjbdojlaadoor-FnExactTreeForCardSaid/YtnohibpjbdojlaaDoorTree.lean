/-
  TreeFor: the model's, the program's.
-/
import Derived.Test.YtnohibpjbdojlaaDoorNear
import Derived.Test.YtnohibpjbdojlaaDoorKSet
namespace Go.Proofs.YtnohibpjbdojlaaDoor
open Go Go.RowKit

set_option maxRecDepth 100000 in
theorem l02Tree_any (f : Fd) (hf : f.Wf) (k : Nat) (hk : k < 100) (b : Nat) (w : World) (B : Blk w b (fcells f) 33) :
    Calls Tryd.prog 37 #[.pointer (some ⟨b, 0, none⟩), .int .i64 k] w fun e w' => e = .returned (.bool (isCell f (k : Int) && f.K k == 3)) ∧ w = w' := by
  have cK := B.cell (fcells_K f k hk)
  have hk1 : (k : Int) < 100 := by omega
  have hKb := hf.K k hk
  have HB := Lib.hid B
  clear B
  cases hc : isCell f (k : Int) with
  | false =>
    rw [Bool.false_and]
    go_enter Tryd.func37, Tryd.ntmps37
    go_wp2_with (go_at_call 33; refine (l01Is_any f k b _ hf.W hf.H HB.out).mono ?_; rintro e w' ⟨rfl, rfl⟩; rw [hc])
    go_ret
    exact ⟨rfl, rfl⟩
  | true =>
    rw [Bool.true_and]
    go_enter Tryd.func37, Tryd.ntmps37
    go_wp2_with (go_at_call 33; refine (l01Is_any f k b _ hf.W hf.H HB.out).mono ?_; rintro e w' ⟨rfl, rfl⟩; rw [hc])
    go_ret
    exact ⟨rfl, rfl⟩
set_option maxRecDepth 100000 in
set_option maxHeartbeats 4000000 in
theorem specTreeFor (f : Fd) (hf : f.Wf) (c : Int) (w : World) : Calls Tryd.prog 16 #[.agg (fcells f), .int .i64 c] w fun e w' => e = .returned (.tuple #[.int .i64 (nearCell f c (kindSet f 3 100)), .int .i64 (nearCode f c (kindSet f 3 100))]) ∧ Below w.heap.size w w' := by
  cases h : (asked f c true == 0) with
  | false =>
    have h0 : asked f c true ≠ 0 := by simpa using h
    have h' : (asked f c true != 0) = true := by simpa using h
    obtain ⟨e1, e2, e3⟩ := near_bad (g := (kindSet f 3 100)) h0
    rw [e1, e2]; clear e1 e2 e3 h0
    go_enter Tryd.func16, Tryd.ntmps16
    go_upto_region 1 with (fail)
    obtain ⟨W, hW, M⟩ := open1 w (fcells f) 33
    rw [hW]; clear hW
    go_wp2_with (first
      | (go_at_call 18; refine (l01Asked_any f hf c _ _ _ (M.at 0 rfl)).mono ?_; rintro e w' ⟨rfl, rfl⟩))
    exact bodyPost_ret (v := .tuple #[.int .i64 0, .int .i64 (asked f c true)]) (by simp [results, Tryd.results16, go_sem]) rfl ⟨rfl, M.below⟩
  | true =>
    have h0 : asked f c true = 0 := by simpa using h
    obtain ⟨hok, hc, -⟩ := asked_0 h0
    obtain ⟨n, hn, rfl⟩ := cell_nat hc
    clear h
    rcases near_cases f n (kindSet f 3 100) with h1 | ⟨p, h1, hp⟩
    · obtain ⟨e1, e2, e3⟩ := near_none (g := (kindSet f 3 100)) h0 h1
      rw [e1, e2]; clear e1 e2 e3
      go_enter Tryd.func16, Tryd.ntmps16
      go_upto_region 1 with (fail)
      obtain ⟨W, hW, M⟩ := open1 w (fcells f) 33
      rw [hW]; clear hW
      go_upto_region 5 with (first
        | (go_at_call 18; refine (l01Asked_any f hf n _ _ _ (M.at 0 rfl)).mono ?_; rintro e w' ⟨rfl, rfl⟩; rw [h0]))
      rw [zero2]
      obtain ⟨tb, htb⟩ : ∃ tb, tb = W.heap.size := ⟨_, rfl⟩
      have M0 := M.alloc (acells .u64 2 (fun _ => 0)) 30
      rw [← htb] at M0 ⊢
      clear htb M
      generalize W.alloc _ = W0 at M0 ⊢
      have M1 : Mem w W0 [⟨w.heap.size, fcells f, 33⟩, ⟨tb, acells .u64 2 (kindSet f 3 0), 30⟩] := M0
      clear M0
      go_wp2_with fail
      go_loopw [8] (fun i wr => ∃ k : Nat, k ≤ 100 ∧ i = .int .i64 k ∧ Hid (Mem w wr [⟨w.heap.size, fcells f, 33⟩, ⟨tb, acells .u64 2 (kindSet f 3 k), 30⟩])) (fun i _ => 100 - (intOf i).toNat)
      case atStart => exact ⟨0, by omega, rfl, Lib.hid M1⟩
      case round =>
        clear M1
        obtain ⟨k, hk, rfl, hM⟩ := hrel
        by_cases hlt : k < 100
        · cases hq : (isCell f (k : Int) && f.K k == 3) with
          | false =>
            have hno : Hid (kindSet f 3 (k + 1) = kindSet f 3 k) := Lib.hid (kindSet_no hq)
            go_wp2_with (first
              | (go_at_call 37; refine (l02Tree_any f hf k hlt _ _ (hM.out.at 0 rfl)).mono ?_; rintro e w' ⟨rfl, rfl⟩; rw [hq]))
            go_roundw
            case rel => exact ⟨k + 1, by omega, by go_num, by rw [hno.out]; exact hM⟩
            case measure => simp [intOf]; omega
          | true =>
            have hq' := hq
            simp only [Bool.and_eq_true] at hq'
            have hyes : Hid (kindSet f 3 (k + 1) = putC (kindSet f 3 k) k) := Lib.hid (kindSet_yes hq'.1 hq'.2)
            clear hq'
            go_wp2_with (first
              | (go_at_call 37; refine (l02Tree_any f hf k hlt _ _ (hM.out.at 0 rfl)).mono ?_; rintro e w' ⟨rfl, rfl⟩; rw [hq])
              | (go_at_call 38; refine (l01Put_any (kindSet f 3 k) k hlt _ _ (hM.out.at 1 rfl)).mono ?_; rintro e w2 ⟨⟨_, rfl⟩, i, vv, hw2, hset⟩; have M4 := Lib.hid (hM.out.set 1 i vv rfl _ hset).drew; rw [hw2] at M4))
            go_roundw
            case rel => exact ⟨k + 1, by omega, by go_num, by rw [hyes.out]; exact M4⟩
            case measure => simp [intOf]; omega
        · obtain rfl : k = 100 := by omega
          go_wp2_with (first
            | (go_at_call 28; refine (l01Nearest_any f hf n hn (kindSet f 3 100) _ _ _ (hM.out.at 0 rfl) (hM.out.at 1 rfl)).mono ?_; rintro e w' ⟨rfl, rfl⟩; rw [h1]))
          exact bodyPost_ret (v := .tuple #[.int .i64 0, .int .i64 6]) (by simp [results, Tryd.results16, go_sem]) rfl ⟨rfl, hM.out.below⟩
    · obtain ⟨e1, e2, e3⟩ := near_some (g := (kindSet f 3 100)) h0 h1
      rw [e1, e2]; clear e1 e2 e3
      have hp0 : ¬ ((p : Int) < 0) := by omega
      go_enter Tryd.func16, Tryd.ntmps16
      go_upto_region 1 with (fail)
      obtain ⟨W, hW, M⟩ := open1 w (fcells f) 33
      rw [hW]; clear hW
      go_upto_region 5 with (first
        | (go_at_call 18; refine (l01Asked_any f hf n _ _ _ (M.at 0 rfl)).mono ?_; rintro e w' ⟨rfl, rfl⟩; rw [h0]))
      rw [zero2]
      obtain ⟨tb, htb⟩ : ∃ tb, tb = W.heap.size := ⟨_, rfl⟩
      have M0 := M.alloc (acells .u64 2 (fun _ => 0)) 30
      rw [← htb] at M0 ⊢
      clear htb M
      generalize W.alloc _ = W0 at M0 ⊢
      have M1 : Mem w W0 [⟨w.heap.size, fcells f, 33⟩, ⟨tb, acells .u64 2 (kindSet f 3 0), 30⟩] := M0
      clear M0
      go_wp2_with fail
      go_loopw [8] (fun i wr => ∃ k : Nat, k ≤ 100 ∧ i = .int .i64 k ∧ Hid (Mem w wr [⟨w.heap.size, fcells f, 33⟩, ⟨tb, acells .u64 2 (kindSet f 3 k), 30⟩])) (fun i _ => 100 - (intOf i).toNat)
      case atStart => exact ⟨0, by omega, rfl, Lib.hid M1⟩
      case round =>
        clear M1
        obtain ⟨k, hk, rfl, hM⟩ := hrel
        by_cases hlt : k < 100
        · cases hq : (isCell f (k : Int) && f.K k == 3) with
          | false =>
            have hno : Hid (kindSet f 3 (k + 1) = kindSet f 3 k) := Lib.hid (kindSet_no hq)
            go_wp2_with (first
              | (go_at_call 37; refine (l02Tree_any f hf k hlt _ _ (hM.out.at 0 rfl)).mono ?_; rintro e w' ⟨rfl, rfl⟩; rw [hq]))
            go_roundw
            case rel => exact ⟨k + 1, by omega, by go_num, by rw [hno.out]; exact hM⟩
            case measure => simp [intOf]; omega
          | true =>
            have hq' := hq
            simp only [Bool.and_eq_true] at hq'
            have hyes : Hid (kindSet f 3 (k + 1) = putC (kindSet f 3 k) k) := Lib.hid (kindSet_yes hq'.1 hq'.2)
            clear hq'
            go_wp2_with (first
              | (go_at_call 37; refine (l02Tree_any f hf k hlt _ _ (hM.out.at 0 rfl)).mono ?_; rintro e w' ⟨rfl, rfl⟩; rw [hq])
              | (go_at_call 38; refine (l01Put_any (kindSet f 3 k) k hlt _ _ (hM.out.at 1 rfl)).mono ?_; rintro e w2 ⟨⟨_, rfl⟩, i, vv, hw2, hset⟩; have M4 := Lib.hid (hM.out.set 1 i vv rfl _ hset).drew; rw [hw2] at M4))
            go_roundw
            case rel => exact ⟨k + 1, by omega, by go_num, by rw [hyes.out]; exact M4⟩
            case measure => simp [intOf]; omega
        · obtain rfl : k = 100 := by omega
          go_wp2_with (first
            | (go_at_call 28; refine (l01Nearest_any f hf n hn (kindSet f 3 100) _ _ _ (hM.out.at 0 rfl) (hM.out.at 1 rfl)).mono ?_; rintro e w' ⟨rfl, rfl⟩; rw [h1]))
          exact bodyPost_ret (v := .tuple #[.int .i64 p, .int .i64 0]) (by simp [results, Tryd.results16, go_sem]) rfl ⟨rfl, hM.out.below⟩

set_option maxRecDepth 100000 in
set_option maxHeartbeats 4000000 in
theorem implTreeFor (f : Fd) (hf : f.Wf) (c : Int) (hc1 : -9223372036854775808 ≤ c) (hc2 : c ≤ 9223372036854775807) (A : Nat → Addr) (w : World) (S0 : Sents w A) : Calls Tryd.prog 17 #[.agg (fcells f), .int .i64 c] w fun e w' => e = .returned (.tuple #[.int .i64 (nearCell f c (kindSet f 3 100)), .int .i64 (nearCode f c (kindSet f 3 100))]) ∧ Below w.heap.size w w' := by
  have S : Hid (Sents w A) := Lib.hid S0
  clear S0
  cases hok : okF f with
  | false =>
    have ha : asked f c true = 1 := by simp [asked, hok]
    obtain ⟨e1, e2, e3⟩ := near_bad (f := f) (c := c) (g := (kindSet f 3 100)) (by omega)
    rw [e1, e2, ha]; clear e1 e2 e3 ha
    have hkc : Hid (kindCode f 3 = 1) := Lib.hid (by simp [kindCode, hok])
    have hks : Hid (cellsOfKind f 3 = fun _ => 0) := Lib.hid (by simp [cellsOfKind, kindOk, hok])
    go_enter Tryd.func17, Tryd.ntmps17
    go_upto_region 1 with (fail)
    obtain ⟨W, hW, M⟩ := open1 w (fcells f) 33
    rw [hW]; clear hW
    go_upto_region 2 with (first
      | (refine wpList_load_part rfl 33 _ rfl w.heap.size 0 rfl (fcells f) _ (M.at 0 rfl).whole Tryd.underlying33 rfl (by rw [fcells_size]; exact sizeFd) ?_)
      | (go_at_call 39; refine (implCellsOfKind f hf 3 (by omega) (by omega) A _ (S.out.later M.below)).mono ?_; rintro e W2 ⟨rfl, hb⟩; rw [hkc.out, hks.out]; have M2 := M.call hb; clear hb)
      | (refine wpList_store_row rfl 30 _ _ rfl W2.heap.size (acells .u64 2 (fun _ => 0)) rfl rfl 30 _ ((M2.alloc #[.int .u64 0, .int .u64 0] 30).at 1 rfl) (by rw [acells_size]; exact sizeC) (by rw [acells_size]; rfl) (acells_one _ _ _) ?_))
    have M3 := (M2.alloc #[.int .u64 0, .int .u64 0] 30).row 1 rfl (acells .u64 2 (fun _ => 0))
    generalize World.setRow _ _ _ = W3 at M3 ⊢
    go_wp2_with fail
    exact bodyPost_ret (v := .tuple #[.int .i64 0, .int .i64 1]) (by simp [results, Tryd.results17, go_sem]) rfl ⟨rfl, M3.below⟩
  | true =>
    have hkc : Hid (kindCode f 3 = 0) := Lib.hid (by simp [kindCode, hok, inB])
    have hks : Hid (cellsOfKind f 3 = (kindSet f 3 100)) := Lib.hid (by simp [cellsOfKind, kindOk, hok, inB])
    go_enter Tryd.func17, Tryd.ntmps17
    go_upto_region 1 with (fail)
    obtain ⟨W, hW, M⟩ := open1 w (fcells f) 33
    rw [hW]; clear hW
    go_upto_region 2 with (first
      | (refine wpList_load_part rfl 33 _ rfl w.heap.size 0 rfl (fcells f) _ (M.at 0 rfl).whole Tryd.underlying33 rfl (by rw [fcells_size]; exact sizeFd) ?_)
      | (go_at_call 39; refine (implCellsOfKind f hf 3 (by omega) (by omega) A _ (S.out.later M.below)).mono ?_; rintro e W2 ⟨rfl, hb⟩; rw [hkc.out, hks.out]; have M2 := M.call hb; clear hb)
      | (refine wpList_store_row rfl 30 _ _ rfl W2.heap.size (acells .u64 2 (kindSet f 3 100)) rfl rfl 30 _ ((M2.alloc #[.int .u64 0, .int .u64 0] 30).at 1 rfl) (by rw [acells_size]; exact sizeC) (by rw [acells_size]; rfl) (acells_one _ _ _) ?_))
    have M3 := (M2.alloc #[.int .u64 0, .int .u64 0] 30).row 1 rfl (acells .u64 2 (kindSet f 3 100))
    generalize World.setRow _ _ _ = W3 at M3 ⊢
    go_wp2_with (first
      | (refine wpList_load_part rfl 33 _ rfl w.heap.size 0 rfl (fcells f) _ (M3.at 0 rfl).whole Tryd.underlying33 rfl (by rw [fcells_size]; exact sizeFd) ?_)
      | (refine wpList_load_part rfl 30 _ rfl W2.heap.size 0 rfl (acells .u64 2 (kindSet f 3 100)) _ (M3.at 1 rfl).whole Tryd.underlying30 rfl (by rw [acells_size]; exact sizeC) ?_)
      | (go_at_call 13; refine (implNearestIn f hf c hc1 hc2 (kindSet f 3 100) A _ (S.out.later M3.below)).mono ?_; rintro e W5 ⟨rfl, hb5⟩; have M5 := M3.call hb5; clear hb5))
    exact bodyPost_ret (v := .tuple #[.int .i64 (nearCell f c (kindSet f 3 100)), .int .i64 (nearCode f c (kindSet f 3 100))]) (by simp [results, Tryd.results17, go_sem]) rfl ⟨rfl, M5.below⟩
end Go.Proofs.YtnohibpjbdojlaaDoor
