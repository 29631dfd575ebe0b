/-
  A cell's kind and seeds changed: the program's way.
-/
import Derived.Test.YtfnpbpokieckcaaDoorTurn
namespace Go.Proofs.YtfnpbpokieckcaaDoor
open Go Go.RowKit

set_option maxRecDepth 100000 in
set_option maxHeartbeats 2000000 in
theorem implWithKind (f : Fd) (hf : f.Wf) (c k : Int) (hc1 : -9223372036854775808 ≤ c) (hc2 : c ≤ 9223372036854775807) (hk1 : -9223372036854775808 ≤ k) (hk2 : k ≤ 9223372036854775807) (A : Nat → Addr) (w : World) (S0 : Sents w A) : Calls Tryd.prog 12 #[.agg (fcells f), .int .i64 c, .int .i64 k] w fun e w' => e = .returned (.tuple #[.agg (fcells (withKind f c k)), .int .i64 (asked f c (inB k 0 3))]) ∧ Below w.heap.size w w' := by
  have S : Hid (Sents w A) := Lib.hid S0
  clear S0
  have hif := isIfaceErr
  have hz : Hid (Tryd.zeroCells28.size = 202) := Lib.hid (by rw [zeroFd, fcells_size])
  have hz1 : Hid (Tryd.zeroCells28.all (·.oneCell') = true) := Lib.hid (by rw [zeroFd]; exact fcells_one _)
  unfold withKind
  cases hok : okF f with
  | false =>
    have ha : asked f c (inB k 0 3) = 1 := by simp [asked, hok]
    rw [ha, if_neg (by omega)]; clear ha
    go_enter Tryd.func12, Tryd.ntmps12
    go_upto_region 1 with (fail)
    obtain ⟨W, hW, M⟩ := open2 w (fcells f) 28 Tryd.zeroCells28 28
    rw [hW]; clear hW
    go_wp2_with (first
      | (refine wpList_load_part rfl 28 _ rfl w.heap.size 0 rfl (fcells f) _ (M.at 0 rfl).whole Tryd.underlying28 rfl (by rw [fcells_size]; exact sizeFd) ?_)
      | (go_at_call 37; refine (checkCells_bad f hf hok A _ _ (S.out.later (M.alloc _ _).below)).mono ?_; rintro e W2 ⟨rfl, hb⟩; have M2 := (M.alloc _ _).call hb; clear hb)
      | (go_at_call 38; refine (codeOf_err A 1 (by omega) (by omega) _ (S.out.later M2.below)).mono ?_; rintro e W3 ⟨rfl, rfl⟩)
      | (refine wpList_store_row rfl 28 _ _ rfl (w.heap.size + 1) Tryd.zeroCells28 rfl rfl 28 _ (M2.at 1 rfl) (by rw [hz.out]; exact sizeFd) (by rw [hz.out]) hz1.out ?_))
    have M4 := M2.row 1 rfl Tryd.zeroCells28
    exact bodyPost_ret (results_row_tmp rfl _ _ (w.heap.size + 1) 28 _ _ _ rfl (M4.at 1 rfl) Tryd.underlying28 rfl (by rw [hz.out]; exact sizeFd)) rfl ⟨by rw [zeroFd]; rfl, M4.below⟩
  | true =>
    cases hc : isCell f c with
    | false =>
      have ha : asked f c (inB k 0 3) = 2 := by simp [asked, hok, hc]
      have hal : allTo 1 (fun i => isCell f ((fun _ => c) i)) = false := allTo_false (i := 0) (by omega) hc
      rw [ha, if_neg (by omega)]; clear ha
      go_enter Tryd.func12, Tryd.ntmps12
      go_upto_region 1 with (fail)
      obtain ⟨W, hW, M⟩ := open2 w (fcells f) 28 Tryd.zeroCells28 28
      rw [hW]; clear hW
      go_wp2_with (first
        | (refine wpList_load_part rfl 28 _ rfl w.heap.size 0 rfl (fcells f) _ (M.at 0 rfl).whole Tryd.underlying28 rfl (by rw [fcells_size]; exact sizeFd) ?_)
        | (go_at_call 37; refine (checkCells_ok f hf hok 1 (by omega) (fun _ => c) (fun _ _ => ⟨hc1, hc2⟩) A _ _ _ (Blk.new _ _ _) (S.out.later (M.alloc _ _).below)).mono ?_; rintro e W2 ⟨rfl, hb⟩; rw [hal, errIf_false]; have M2 := (M.alloc _ _).call hb; clear hb)
        | (go_at_call 38; refine (codeOf_err A 2 (by omega) (by omega) _ (S.out.later M2.below)).mono ?_; rintro e W3 ⟨rfl, rfl⟩)
        | (refine wpList_store_row rfl 28 _ _ rfl (w.heap.size + 1) Tryd.zeroCells28 rfl rfl 28 _ (M2.at 1 rfl) (by rw [hz.out]; exact sizeFd) (by rw [hz.out]) hz1.out ?_))
      have M4 := M2.row 1 rfl Tryd.zeroCells28
      exact bodyPost_ret (results_row_tmp rfl _ _ (w.heap.size + 1) 28 _ _ _ rfl (M4.at 1 rfl) Tryd.underlying28 rfl (by rw [hz.out]; exact sizeFd)) rfl ⟨by rw [zeroFd]; rfl, M4.below⟩
    | true =>
      have hal : allTo 1 (fun i => isCell f ((fun _ => c) i)) = true := allTo_iff.2 (fun i hi => hc)
      cases hkk : inB k 0 3 with
      | false =>
        have ha : asked f c false = 2 := by simp [asked, hok, hc]
        rw [ha, if_neg (by omega)]; clear ha
        go_enter Tryd.func12, Tryd.ntmps12
        go_upto_region 1 with (fail)
        obtain ⟨W, hW, M⟩ := open2 w (fcells f) 28 Tryd.zeroCells28 28
        rw [hW]; clear hW
        go_wp2_with (first
          | (refine wpList_load_part rfl 28 _ rfl w.heap.size 0 rfl (fcells f) _ (M.at 0 rfl).whole Tryd.underlying28 rfl (by rw [fcells_size]; exact sizeFd) ?_)
          | (go_at_call 37; refine (checkCells_ok f hf hok 1 (by omega) (fun _ => c) (fun _ _ => ⟨hc1, hc2⟩) A _ _ _ (Blk.new _ _ _) (S.out.later (M.alloc _ _).below)).mono ?_; rintro e W2 ⟨rfl, hb⟩; rw [hal, errIf_true]; have M2 := (M.alloc _ _).call hb; clear hb; have hv2 := (S.out.later M2.below).v2)
          | (go_at_call 39; refine (isKind_any _ _).mono ?_; rintro e w' ⟨rfl, rfl⟩; rw [hkk])
          | (go_at_call 38; refine (codeOf_err A 2 (by omega) (by omega) _ (S.out.later M2.below)).mono ?_; rintro e W3 ⟨rfl, rfl⟩)
          | (refine wpList_store_row rfl 28 _ _ rfl (w.heap.size + 1) Tryd.zeroCells28 rfl rfl 28 _ (M2.at 1 rfl) (by rw [hz.out]; exact sizeFd) (by rw [hz.out]) hz1.out ?_))
        have M4 := M2.row 1 rfl Tryd.zeroCells28
        exact bodyPost_ret (results_row_tmp rfl _ _ (w.heap.size + 1) 28 _ _ _ rfl (M4.at 1 rfl) Tryd.underlying28 rfl (by rw [hz.out]; exact sizeFd)) rfl ⟨by rw [zeroFd]; rfl, M4.below⟩
      | true =>
        have ha : asked f c true = 0 := by simp [asked, hok, hc]
        rw [ha, if_pos rfl]; clear ha
        obtain ⟨n, hn, rfl⟩ := cell_nat hc
        have hn1 : (n : Int) < 100 := by omega
        obtain ⟨hk3, hk4⟩ := inB_iff.1 hkk
        rw [Int.toNat_natCast]
        by_cases hz0 : k = 0
        · subst hz0
          rw [if_pos rfl]
          go_enter Tryd.func12, Tryd.ntmps12
          go_upto_region 1 with (fail)
          obtain ⟨W, hW, M⟩ := open2 w (fcells f) 28 Tryd.zeroCells28 28
          rw [hW]; clear hW
          go_upto_region 7 with (first
            | (refine wpList_load_part rfl 28 _ rfl w.heap.size 0 rfl (fcells f) _ (M.at 0 rfl).whole Tryd.underlying28 rfl (by rw [fcells_size]; exact sizeFd) ?_)
            | (go_at_call 37; refine (checkCells_ok f hf hok 1 (by omega) (fun _ => (n : Int)) (fun _ _ => ⟨hc1, hc2⟩) A _ _ _ (Blk.new _ _ _) (S.out.later (M.alloc _ _).below)).mono ?_; rintro e W2 ⟨rfl, hb⟩; rw [hal, errIf_true]; have M2 := (M.alloc _ _).call hb; clear hb)
            | (go_at_call 39; refine (isKind_any _ _).mono ?_; rintro e w' ⟨rfl, rfl⟩; rw [hkk]))
          clear M
          obtain ⟨W4, hW4⟩ : ∃ W4, W2.alloc (.cells #[.int .u8 (0), .int .i16 (0)] 69) = W4 := ⟨_, rfl⟩
          have M3 := M2.alloc #[.int .u8 (0), .int .i16 (0)] 69
          rw [hW4] at M3 ⊢; clear hW4
          have cS := (M3.at 0 rfl).cell (fcells_S f n hn)
          have d1 := (M3.at 3 rfl).cell (i := 1) rfl
          have e1 := (M3.at 3 rfl).free 1
          have M4 := M3.set 3 1 (.int .i16 (f.S n)) rfl #[.int .u8 0, .int .i16 (f.S n)] rfl
          go_upto_region 9 with (fail)
          generalize World.setCell _ _ _ = W5 at M4 ⊢
          clear M2 M3 cS d1 e1
          have x0 := (M4.at 3 rfl).cell (i := 0) rfl
          have x1 := (M4.at 3 rfl).cell (i := 1) rfl
          go_wp2_with (first
            | (refine wpList_load_part rfl 28 _ rfl w.heap.size 0 rfl (fcells f) _ (M4.at 0 rfl).whole Tryd.underlying28 rfl (by rw [fcells_size]; exact sizeFd) ?_)
            | (go_at_call 40; refine (withSpot_any f n hn (0) (f.S n) _).mono ?_; rintro e W6 ⟨rfl, hb⟩; have M5 := M4.call hb; clear hb)
            | (refine wpList_store_row rfl 28 _ _ rfl (w.heap.size + 1) (fcells (turned f n (0) (f.S n))) rfl rfl 28 _ (M5.at 1 rfl) (by rw [fcells_size]; exact sizeFd) (by rw [hz.out, fcells_size]) (fcells_one _) ?_))
          have M6 := M5.row 1 rfl (fcells (turned f n (0) (f.S n)))
          exact bodyPost_ret (results_row_tmp rfl _ _ (w.heap.size + 1) 28 _ _ _ rfl (M6.at 1 rfl) Tryd.underlying28 rfl (by rw [fcells_size]; exact sizeFd)) rfl ⟨rfl, M6.below⟩
        · rw [if_neg hz0]
          go_enter Tryd.func12, Tryd.ntmps12
          go_upto_region 1 with (fail)
          obtain ⟨W, hW, M⟩ := open2 w (fcells f) 28 Tryd.zeroCells28 28
          rw [hW]; clear hW
          go_upto_region 7 with (first
            | (refine wpList_load_part rfl 28 _ rfl w.heap.size 0 rfl (fcells f) _ (M.at 0 rfl).whole Tryd.underlying28 rfl (by rw [fcells_size]; exact sizeFd) ?_)
            | (go_at_call 37; refine (checkCells_ok f hf hok 1 (by omega) (fun _ => (n : Int)) (fun _ _ => ⟨hc1, hc2⟩) A _ _ _ (Blk.new _ _ _) (S.out.later (M.alloc _ _).below)).mono ?_; rintro e W2 ⟨rfl, hb⟩; rw [hal, errIf_true]; have M2 := (M.alloc _ _).call hb; clear hb)
            | (go_at_call 39; refine (isKind_any _ _).mono ?_; rintro e w' ⟨rfl, rfl⟩; rw [hkk]))
          clear M
          obtain ⟨W4, hW4⟩ : ∃ W4, W2.alloc (.cells #[.int .u8 (k), .int .i16 (0)] 69) = W4 := ⟨_, rfl⟩
          have M3 := M2.alloc #[.int .u8 (k), .int .i16 (0)] 69
          rw [hW4] at M3 ⊢; clear hW4
          clear M2
          have x0 := (M3.at 3 rfl).cell (i := 0) rfl
          have x1 := (M3.at 3 rfl).cell (i := 1) rfl
          go_wp2_with (first
            | (refine wpList_load_part rfl 28 _ rfl w.heap.size 0 rfl (fcells f) _ (M3.at 0 rfl).whole Tryd.underlying28 rfl (by rw [fcells_size]; exact sizeFd) ?_)
            | (go_at_call 40; refine (withSpot_any f n hn (k) (0) _).mono ?_; rintro e W6 ⟨rfl, hb⟩; have M5 := M3.call hb; clear hb)
            | (refine wpList_store_row rfl 28 _ _ rfl (w.heap.size + 1) (fcells (turned f n (k) (0))) rfl rfl 28 _ (M5.at 1 rfl) (by rw [fcells_size]; exact sizeFd) (by rw [hz.out, fcells_size]) (fcells_one _) ?_))
          have M6 := M5.row 1 rfl (fcells (turned f n (k) (0)))
          exact bodyPost_ret (results_row_tmp rfl _ _ (w.heap.size + 1) 28 _ _ _ rfl (M6.at 1 rfl) Tryd.underlying28 rfl (by rw [fcells_size]; exact sizeFd)) rfl ⟨rfl, M6.below⟩
set_option maxRecDepth 100000 in
set_option maxHeartbeats 2000000 in
theorem checkSowing_any (f : Fd) (hf : f.Wf) (c s : Int) (hc1 : -9223372036854775808 ≤ c) (hc2 : c ≤ 9223372036854775807) (hs1 : -9223372036854775808 ≤ s) (hs2 : s ≤ 9223372036854775807) (A : Nat → Addr) (w : World) (S0 : Sents w A) : Calls Tryd.prog 44 #[.agg (fcells f), .int .i64 c, .int .i64 s] w fun e w' => e = .returned (errIf A (sowCode f c s).toNat (decide (sowCode f c s = 0))) ∧ Below w.heap.size w w' := by
  have S : Hid (Sents w A) := Lib.hid S0
  clear S0
  have hif := isIfaceErr
  have hz : Hid (Tryd.zeroCells28.size = 202) := Lib.hid (by rw [zeroFd, fcells_size])
  have hz1 : Hid (Tryd.zeroCells28.all (·.oneCell') = true) := Lib.hid (by rw [zeroFd]; exact fcells_one _)
  clear hz hz1
  cases hok : okF f with
  | false =>
    have ha : sowCode f c s = 1 := by simp [sowCode, asked, hok]
    rw [ha]; clear ha
    go_enter Tryd.func44, Tryd.ntmps44
    go_upto_region 1 with (fail)
    obtain ⟨W, hW, M⟩ := open1 w (fcells f) 28
    rw [hW]; clear hW
    go_wp2_with (first
      | (refine wpList_load_part rfl 28 _ rfl w.heap.size 0 rfl (fcells f) _ (M.at 0 rfl).whole Tryd.underlying28 rfl (by rw [fcells_size]; exact sizeFd) ?_)
      | (go_at_call 37; refine (checkCells_bad f hf hok A _ _ (S.out.later (M.alloc _ _).below)).mono ?_; rintro e W2 ⟨rfl, hb⟩; have M2 := (M.alloc _ _).call hb; clear hb))
    go_ret
    exact ⟨rfl, M2.below⟩
  | true =>
    cases hc : isCell f c with
    | false =>
      have ha : sowCode f c s = 2 := by simp [sowCode, asked, hok, hc]
      have hal : allTo 1 (fun i => isCell f ((fun _ => c) i)) = false := allTo_false (i := 0) (by omega) hc
      rw [ha]; clear ha
      go_enter Tryd.func44, Tryd.ntmps44
      go_upto_region 1 with (fail)
      obtain ⟨W, hW, M⟩ := open1 w (fcells f) 28
      rw [hW]; clear hW
      go_wp2_with (first
        | (refine wpList_load_part rfl 28 _ rfl w.heap.size 0 rfl (fcells f) _ (M.at 0 rfl).whole Tryd.underlying28 rfl (by rw [fcells_size]; exact sizeFd) ?_)
        | (go_at_call 37; refine (checkCells_ok f hf hok 1 (by omega) (fun _ => c) (fun _ _ => ⟨hc1, hc2⟩) A _ _ _ (Blk.new _ _ _) (S.out.later (M.alloc _ _).below)).mono ?_; rintro e W2 ⟨rfl, hb⟩; rw [hal, errIf_false]; have M2 := (M.alloc _ _).call hb; clear hb))
      go_ret
      exact ⟨rfl, M2.below⟩
    | true =>
      have hal : allTo 1 (fun i => isCell f ((fun _ => c) i)) = true := allTo_iff.2 (fun i hi => hc)
      cases hss : inB s 0 1000 with
      | false =>
        have ha : sowCode f c s = 2 := by simp [sowCode, asked, hok, hc, hss]
        rw [ha]; clear ha
        go_enter Tryd.func44, Tryd.ntmps44
        go_upto_region 1 with (fail)
        obtain ⟨W, hW, M⟩ := open1 w (fcells f) 28
        rw [hW]; clear hW
        go_wp2_with (first
          | (refine wpList_load_part rfl 28 _ rfl w.heap.size 0 rfl (fcells f) _ (M.at 0 rfl).whole Tryd.underlying28 rfl (by rw [fcells_size]; exact sizeFd) ?_)
          | (go_at_call 37; refine (checkCells_ok f hf hok 1 (by omega) (fun _ => c) (fun _ _ => ⟨hc1, hc2⟩) A _ _ _ (Blk.new _ _ _) (S.out.later (M.alloc _ _).below)).mono ?_; rintro e W2 ⟨rfl, hb⟩; rw [hal, errIf_true]; have M2 := (M.alloc _ _).call hb; clear hb; have hv2 := (S.out.later M2.below).v2)
          | (go_at_call 69; refine (isSeeds_any _ _).mono ?_; rintro e w' ⟨rfl, rfl⟩; rw [hss]))
        go_ret
        exact ⟨rfl, M2.below⟩
      | true =>
        obtain ⟨n, hn, rfl⟩ := cell_nat hc
        have hn1 : (n : Int) < 100 := by omega
        obtain ⟨hs3, hs4⟩ := inB_iff.1 hss
        obtain ⟨hS3, hS4⟩ := ok_seeds hok hn
        obtain ⟨hK3, hK4⟩ := ok_kinds hok hn
        by_cases hk : f.K n = 0
        · have hk' : (f.K n != 0) = false := by simpa using hk
          cases hl : inB (f.S n + s) 0 1000 with
          | false =>
            have ha : sowCode f n s = 3 := by simp [sowCode, asked, hok, hc, hss, hk, hl]
            rw [ha]; clear ha
            go_enter Tryd.func44, Tryd.ntmps44
            go_upto_region 1 with (fail)
            obtain ⟨W, hW, M⟩ := open1 w (fcells f) 28
            rw [hW]; clear hW
            go_wp2_with (first
              | (refine wpList_load_part rfl 28 _ rfl w.heap.size 0 rfl (fcells f) _ (M.at 0 rfl).whole Tryd.underlying28 rfl (by rw [fcells_size]; exact sizeFd) ?_)
              | (go_at_call 37; refine (checkCells_ok f hf hok 1 (by omega) (fun _ => (n : Int)) (fun _ _ => ⟨hc1, hc2⟩) A _ _ _ (Blk.new _ _ _) (S.out.later (M.alloc _ _).below)).mono ?_; rintro e W2 ⟨rfl, hb⟩; rw [hal, errIf_true]; have M2 := (M.alloc _ _).call hb; clear hb; have cK := (M2.at 0 rfl).cell (fcells_K f n hn); have cS := (M2.at 0 rfl).cell (fcells_S f n hn); have hv3 := (S.out.later M2.below).v3)
              | (go_at_call 69; refine (isSeeds_any _ _).mono ?_; rintro e w' ⟨rfl, rfl⟩; first | rw [hss] | rw [hl]))
            go_ret
            exact ⟨rfl, M2.below⟩
          | true =>
            have ha : sowCode f n s = 0 := by simp [sowCode, asked, hok, hc, hss, hk, hl]
            rw [ha]; clear ha
            go_enter Tryd.func44, Tryd.ntmps44
            go_upto_region 1 with (fail)
            obtain ⟨W, hW, M⟩ := open1 w (fcells f) 28
            rw [hW]; clear hW
            go_wp2_with (first
              | (refine wpList_load_part rfl 28 _ rfl w.heap.size 0 rfl (fcells f) _ (M.at 0 rfl).whole Tryd.underlying28 rfl (by rw [fcells_size]; exact sizeFd) ?_)
              | (go_at_call 37; refine (checkCells_ok f hf hok 1 (by omega) (fun _ => (n : Int)) (fun _ _ => ⟨hc1, hc2⟩) A _ _ _ (Blk.new _ _ _) (S.out.later (M.alloc _ _).below)).mono ?_; rintro e W2 ⟨rfl, hb⟩; rw [hal, errIf_true]; have M2 := (M.alloc _ _).call hb; clear hb; have cK := (M2.at 0 rfl).cell (fcells_K f n hn); have cS := (M2.at 0 rfl).cell (fcells_S f n hn))
              | (go_at_call 69; refine (isSeeds_any _ _).mono ?_; rintro e w' ⟨rfl, rfl⟩; first | rw [hss] | rw [hl]))
            go_ret
            exact ⟨rfl, M2.below⟩
        · have hk' : (f.K n != 0) = true := by simpa using hk
          have ha : sowCode f n s = 4 := by simp [sowCode, asked, hok, hc, hss, hk]
          rw [ha]; clear ha
          go_enter Tryd.func44, Tryd.ntmps44
          go_upto_region 1 with (fail)
          obtain ⟨W, hW, M⟩ := open1 w (fcells f) 28
          rw [hW]; clear hW
          go_wp2_with (first
            | (refine wpList_load_part rfl 28 _ rfl w.heap.size 0 rfl (fcells f) _ (M.at 0 rfl).whole Tryd.underlying28 rfl (by rw [fcells_size]; exact sizeFd) ?_)
            | (go_at_call 37; refine (checkCells_ok f hf hok 1 (by omega) (fun _ => (n : Int)) (fun _ _ => ⟨hc1, hc2⟩) A _ _ _ (Blk.new _ _ _) (S.out.later (M.alloc _ _).below)).mono ?_; rintro e W2 ⟨rfl, hb⟩; rw [hal, errIf_true]; have M2 := (M.alloc _ _).call hb; clear hb; have cK := (M2.at 0 rfl).cell (fcells_K f n hn); have cS := (M2.at 0 rfl).cell (fcells_S f n hn); have hv4 := (S.out.later M2.below).v4)
            | (go_at_call 69; refine (isSeeds_any _ _).mono ?_; rintro e w' ⟨rfl, rfl⟩; first | rw [hss]))
          go_ret
          exact ⟨rfl, M2.below⟩
theorem sow_codes (f : Fd) (c s : Int) : sowCode f c s = 0 ∨ sowCode f c s = 1 ∨ sowCode f c s = 2 ∨ sowCode f c s = 3 ∨ sowCode f c s = 4 := by
  unfold sowCode asked
  split <;> (try split) <;> (try split) <;> (try split) <;> simp_all
  cases inB (f.S c.toNat + s) 0 1000 <;> simp
set_option maxRecDepth 100000 in
set_option maxHeartbeats 2000000 in
theorem implSowCell (f : Fd) (hf : f.Wf) (c s : Int) (hc1 : -9223372036854775808 ≤ c) (hc2 : c ≤ 9223372036854775807) (hs1 : -9223372036854775808 ≤ s) (hs2 : s ≤ 9223372036854775807) (A : Nat → Addr) (w : World) (S0 : Sents w A) : Calls Tryd.prog 15 #[.agg (fcells f), .int .i64 c, .int .i64 s] w fun e w' => e = .returned (.tuple #[.agg (fcells (sowCell f c s)), .int .i64 (sowCode f c s)]) ∧ Below w.heap.size w w' := by
  have S : Hid (Sents w A) := Lib.hid S0
  clear S0
  have hif := isIfaceErr
  have hz : Hid (Tryd.zeroCells28.size = 202) := Lib.hid (by rw [zeroFd, fcells_size])
  have hz1 : Hid (Tryd.zeroCells28.all (·.oneCell') = true) := Lib.hid (by rw [zeroFd]; exact fcells_one _)
  unfold sowCell
  by_cases h0 : sowCode f c s = 0
  · have hq : okF f = true ∧ isCell f c = true ∧ inB s 0 1000 = true ∧ f.K c.toNat = 0 ∧ inB (f.S c.toNat + s) 0 1000 = true := by
      unfold sowCode at h0
      split at h0
      · rename_i h; exact absurd h0 h
      · rename_i h
        have h := asked_0 (Decidable.not_not.1 h)
        split at h0
        · omega
        · rename_i h4
          split at h0
          · omega
          · rename_i h5
            exact ⟨h.1, h.2.1, h.2.2, Decidable.not_not.1 h4, by simpa using h5⟩
    obtain ⟨hok, hc, hss, hk, hl⟩ := hq
    obtain ⟨n, hn, rfl⟩ := cell_nat hc
    rw [Int.toNat_natCast] at hk hl
    have hn1 : (n : Int) < 100 := by omega
    obtain ⟨hs3, hs4⟩ := inB_iff.1 hss
    obtain ⟨hS3, hS4⟩ := ok_seeds hok hn
    obtain ⟨hl3, hl4⟩ := inB_iff.1 hl
    rw [if_pos h0, h0, Int.toNat_natCast, hk]
    go_enter Tryd.func15, Tryd.ntmps15
    go_upto_region 1 with (fail)
    obtain ⟨W, hW, M⟩ := open2 w (fcells f) 28 Tryd.zeroCells28 28
    rw [hW]; clear hW
    go_upto_region 5 with (first
      | (refine wpList_load_part rfl 28 _ rfl w.heap.size 0 rfl (fcells f) _ (M.at 0 rfl).whole Tryd.underlying28 rfl (by rw [fcells_size]; exact sizeFd) ?_)
      | (go_at_call 44; refine (checkSowing_any f hf _ s hc1 hc2 hs1 hs2 A _ (S.out.later M.below)).mono ?_; rintro e W2 ⟨rfl, hb⟩; rw [h0, decide_eq_true rfl, errIf_true]; have M2 := M.call hb; clear hb)
      | (refine wpList_load_part rfl 28 _ rfl w.heap.size 0 rfl (fcells f) _ (M2.at 0 rfl).whole Tryd.underlying28 rfl (by rw [fcells_size]; exact sizeFd) ?_)
      | (go_at_call 45; refine (spotAt_any f n hn _).mono ?_; rintro e W3 ⟨rfl, hb⟩; rw [hk]; have M3 := M2.call hb; clear hb))
    obtain ⟨W4, hW4⟩ : ∃ W4, W3.alloc (.cells #[.int .u8 0, .int .i16 (f.S n)] 69) = W4 := ⟨_, rfl⟩
    have M4 := M3.alloc #[.int .u8 0, .int .i16 (f.S n)] 69
    rw [hW4] at M4 ⊢; clear hW4
    have d1 := (M4.at 2 rfl).cell (i := 1) rfl
    have e1 := (M4.at 2 rfl).free 1
    have M5 := M4.set 2 1 (.int .i16 (f.S n + s)) rfl #[.int .u8 0, .int .i16 (f.S n + s)] rfl
    go_upto_region 6 with (fail)
    generalize World.setCell _ _ _ = W5 at M5 ⊢
    clear M M2 M3 M4 d1 e1
    have x0 := (M5.at 2 rfl).cell (i := 0) rfl
    have x1 := (M5.at 2 rfl).cell (i := 1) rfl
    go_wp2_with (first
      | (refine wpList_load_part rfl 28 _ rfl w.heap.size 0 rfl (fcells f) _ (M5.at 0 rfl).whole Tryd.underlying28 rfl (by rw [fcells_size]; exact sizeFd) ?_)
      | (go_at_call 40; refine (withSpot_any f n hn (0) (f.S n + s) _).mono ?_; rintro e W6 ⟨rfl, hb⟩; have M6 := M5.call hb; clear hb)
      | (refine wpList_store_row rfl 28 _ _ rfl (w.heap.size + 1) (fcells (turned f n (0) (f.S n + s))) rfl rfl 28 _ (M6.at 1 rfl) (by rw [fcells_size]; exact sizeFd) (by rw [hz.out, fcells_size]) (fcells_one _) ?_))
    have M7 := M6.row 1 rfl (fcells (turned f n (0) (f.S n + s)))
    exact bodyPost_ret (results_row_tmp rfl _ _ (w.heap.size + 1) 28 _ _ _ rfl (M7.at 1 rfl) Tryd.underlying28 rfl (by rw [fcells_size]; exact sizeFd)) rfl ⟨rfl, M7.below⟩
  · obtain ⟨k, hk1, hk2, hk⟩ : ∃ k : Nat, 1 ≤ k ∧ k ≤ 4 ∧ sowCode f c s = (k : Int) := by
      have := sow_codes f c s
      exact ⟨(sowCode f c s).toNat, by omega, by omega, by omega⟩
    have hk0 : ¬ (k : Int) = 0 := by omega
    rw [if_neg h0, hk]
    go_enter Tryd.func15, Tryd.ntmps15
    go_upto_region 1 with (fail)
    obtain ⟨W, hW, M⟩ := open2 w (fcells f) 28 Tryd.zeroCells28 28
    rw [hW]; clear hW
    go_wp2_with (first
      | (refine wpList_load_part rfl 28 _ rfl w.heap.size 0 rfl (fcells f) _ (M.at 0 rfl).whole Tryd.underlying28 rfl (by rw [fcells_size]; exact sizeFd) ?_)
      | (go_at_call 44; refine (checkSowing_any f hf _ s hc1 hc2 hs1 hs2 A _ (S.out.later M.below)).mono ?_; rintro e W2 ⟨rfl, hb⟩; rw [hk, decide_eq_false hk0, errIf_false, Int.toNat_natCast]; have M2 := M.call hb; clear hb)
      | (go_at_call 38; refine (codeOf_err A k (by omega) (by omega) _ (S.out.later M2.below)).mono ?_; rintro e W3 ⟨rfl, rfl⟩)
      | (refine wpList_store_row rfl 28 _ _ rfl (w.heap.size + 1) Tryd.zeroCells28 rfl rfl 28 _ (M2.at 1 rfl) (by rw [hz.out]; exact sizeFd) (by rw [hz.out]) hz1.out ?_))
    have M4 := M2.row 1 rfl Tryd.zeroCells28
    exact bodyPost_ret (results_row_tmp rfl _ _ (w.heap.size + 1) 28 _ _ _ rfl (M4.at 1 rfl) Tryd.underlying28 rfl (by rw [hz.out]; exact sizeFd)) rfl ⟨by rw [zeroFd]; rfl, M4.below⟩
set_option maxRecDepth 100000 in
set_option maxHeartbeats 2000000 in
theorem takeFrom_any (f : Fd) (n : Nat) (hn : n < 100) (hS3 : 0 ≤ f.S n) (hS4 : f.S n ≤ 1000) (m : Int) (hm : 0 ≤ m) (hm2 : m ≤ 9223372036854775807) (k : Int) (hk : f.K n = k) (w : World) : Calls Tryd.prog 47 #[.agg (fcells f), .int .i64 n, .int .i64 m] w fun e w' => e = .returned (.tuple #[.agg (fcells (turned f n k (f.S n - minI m (f.S n)))), .int .i64 (minI m (f.S n))]) ∧ Below w.heap.size w w' := by
  have hn1 : (n : Int) < 100 := by omega
  obtain ⟨ht3, ht4⟩ := minI_le hm hS3
  have hz : Hid (Tryd.zeroCells28.size = 202) := Lib.hid (by rw [zeroFd, fcells_size])
  have hz1 : Hid (Tryd.zeroCells28.all (·.oneCell') = true) := Lib.hid (by rw [zeroFd]; exact fcells_one _)
  go_enter Tryd.func47, Tryd.ntmps47
  go_upto_region 1 with (fail)
  obtain ⟨W, hW, M⟩ := open2 w (fcells f) 28 Tryd.zeroCells28 28
  rw [hW]; clear hW
  go_upto_region 2 with (first
    | (refine wpList_load_part rfl 28 _ rfl w.heap.size 0 rfl (fcells f) _ (M.at 0 rfl).whole Tryd.underlying28 rfl (by rw [fcells_size]; exact sizeFd) ?_)
    | (go_at_call 45; refine (spotAt_any f n hn _).mono ?_; rintro e W3 ⟨rfl, hb⟩; rw [hk]; have M3 := M.call hb; clear hb))
  obtain ⟨W4, hW4⟩ : ∃ W4, W3.alloc (.cells #[.int .u8 k, .int .i16 (f.S n)] 69) = W4 := ⟨_, rfl⟩
  have M4 := M3.alloc #[.int .u8 k, .int .i16 (f.S n)] 69
  rw [hW4] at M4 ⊢; clear hW4
  have d1 := (M4.at 2 rfl).cell (i := 1) rfl
  have e1 := (M4.at 2 rfl).free 1
  have M5 := M4.set 2 1 (.int .i16 (f.S n - minI m (f.S n))) rfl #[.int .u8 k, .int .i16 (f.S n - minI m (f.S n))] rfl
  clear M M3
  go_upto_region 3 with (fail)
  rw [show (if f.S n < m then f.S n else m) = minI m (f.S n) by unfold minI; split <;> split <;> omega]
  go_upto_region 4 with (fail)
  generalize World.setCell _ _ _ = W5 at M5 ⊢
  clear M4 d1 e1
  have x0 := (M5.at 2 rfl).cell (i := 0) rfl
  have x1 := (M5.at 2 rfl).cell (i := 1) rfl
  go_wp2_with (first
    | (refine wpList_load_part rfl 28 _ rfl w.heap.size 0 rfl (fcells f) _ (M5.at 0 rfl).whole Tryd.underlying28 rfl (by rw [fcells_size]; exact sizeFd) ?_)
    | (go_at_call 40; refine (withSpot_any f n hn (k) (f.S n - minI m (f.S n)) _).mono ?_; rintro e W6 ⟨rfl, hb⟩; have M6 := M5.call hb; clear hb)
    | (refine wpList_store_row rfl 28 _ _ rfl (w.heap.size + 1) (fcells (turned f n (k) (f.S n - minI m (f.S n)))) rfl rfl 28 _ (M6.at 1 rfl) (by rw [fcells_size]; exact sizeFd) (by rw [hz.out, fcells_size]) (fcells_one _) ?_))
  have M7 := M6.row 1 rfl (fcells (turned f n (k) (f.S n - minI m (f.S n))))
  exact bodyPost_ret (results_row_tmp rfl _ _ (w.heap.size + 1) 28 _ _ _ rfl (M7.at 1 rfl) Tryd.underlying28 rfl (by rw [fcells_size]; exact sizeFd)) rfl ⟨rfl, M7.below⟩
set_option maxRecDepth 100000 in
set_option maxHeartbeats 2000000 in
theorem implTakeSeeds (f : Fd) (hf : f.Wf) (c m : Int) (hc1 : -9223372036854775808 ≤ c) (hc2 : c ≤ 9223372036854775807) (hm1 : -9223372036854775808 ≤ m) (hm2 : m ≤ 9223372036854775807) (A : Nat → Addr) (w : World) (S0 : Sents w A) : Calls Tryd.prog 17 #[.agg (fcells f), .int .i64 c, .int .i64 m] w fun e w' => e = .returned (.tuple #[.agg (fcells (takeField f c m)), .int .i64 (takenOf f c m), .int .i64 (takeCode f c m)]) ∧ Below w.heap.size w w' := by
  have S : Hid (Sents w A) := Lib.hid S0
  clear S0
  have hif := isIfaceErr
  have hz : Hid (Tryd.zeroCells28.size = 202) := Lib.hid (by rw [zeroFd, fcells_size])
  have hz1 : Hid (Tryd.zeroCells28.all (·.oneCell') = true) := Lib.hid (by rw [zeroFd]; exact fcells_one _)
  unfold takeField takenOf takeCode
  cases hok : okF f with
  | false =>
    have ha : asked f c (decide (0 ≤ m)) = 1 := by simp [asked, hok]
    rw [ha, if_neg (by omega), if_neg (by omega)]; clear ha
    go_enter Tryd.func17, Tryd.ntmps17
    go_upto_region 1 with (fail)
    obtain ⟨W, hW, M⟩ := open2 w (fcells f) 28 Tryd.zeroCells28 28
    rw [hW]; clear hW
    go_wp2_with (first
      | (refine wpList_load_part rfl 28 _ rfl w.heap.size 0 rfl (fcells f) _ (M.at 0 rfl).whole Tryd.underlying28 rfl (by rw [fcells_size]; exact sizeFd) ?_)
      | (go_at_call 37; refine (checkCells_bad f hf hok A _ _ (S.out.later (M.alloc _ _).below)).mono ?_; rintro e W2 ⟨rfl, hb⟩; have M2 := (M.alloc _ _).call hb; clear hb)
      | (go_at_call 38; refine (codeOf_err A 1 (by omega) (by omega) _ (S.out.later M2.below)).mono ?_; rintro e W3 ⟨rfl, rfl⟩)
      | (refine wpList_store_row rfl 28 _ _ rfl (w.heap.size + 1) Tryd.zeroCells28 rfl rfl 28 _ (M2.at 1 rfl) (by rw [hz.out]; exact sizeFd) (by rw [hz.out]) hz1.out ?_))
    have M4 := M2.row 1 rfl Tryd.zeroCells28
    exact bodyPost_ret (results_row_tmp2 rfl _ _ (w.heap.size + 1) 28 _ _ _ rfl (M4.at 1 rfl) Tryd.underlying28 rfl (by rw [hz.out]; exact sizeFd)) rfl ⟨by rw [zeroFd]; rfl, M4.below⟩
  | true =>
    cases hc : isCell f c with
    | false =>
      have ha : asked f c (decide (0 ≤ m)) = 2 := by simp [asked, hok, hc]
      have hal : allTo 1 (fun i => isCell f ((fun _ => c) i)) = false := allTo_false (i := 0) (by omega) hc
      rw [ha, if_neg (by omega), if_neg (by omega)]; clear ha
      go_enter Tryd.func17, Tryd.ntmps17
      go_upto_region 1 with (fail)
      obtain ⟨W, hW, M⟩ := open2 w (fcells f) 28 Tryd.zeroCells28 28
      rw [hW]; clear hW
      go_wp2_with (first
        | (refine wpList_load_part rfl 28 _ rfl w.heap.size 0 rfl (fcells f) _ (M.at 0 rfl).whole Tryd.underlying28 rfl (by rw [fcells_size]; exact sizeFd) ?_)
        | (go_at_call 37; refine (checkCells_ok f hf hok 1 (by omega) (fun _ => c) (fun _ _ => ⟨hc1, hc2⟩) A _ _ _ (Blk.new _ _ _) (S.out.later (M.alloc _ _).below)).mono ?_; rintro e W2 ⟨rfl, hb⟩; rw [hal, errIf_false]; have M2 := (M.alloc _ _).call hb; clear hb)
        | (go_at_call 38; refine (codeOf_err A 2 (by omega) (by omega) _ (S.out.later M2.below)).mono ?_; rintro e W3 ⟨rfl, rfl⟩)
        | (refine wpList_store_row rfl 28 _ _ rfl (w.heap.size + 1) Tryd.zeroCells28 rfl rfl 28 _ (M2.at 1 rfl) (by rw [hz.out]; exact sizeFd) (by rw [hz.out]) hz1.out ?_))
      have M4 := M2.row 1 rfl Tryd.zeroCells28
      exact bodyPost_ret (results_row_tmp2 rfl _ _ (w.heap.size + 1) 28 _ _ _ rfl (M4.at 1 rfl) Tryd.underlying28 rfl (by rw [hz.out]; exact sizeFd)) rfl ⟨by rw [zeroFd]; rfl, M4.below⟩
    | true =>
      have hal : allTo 1 (fun i => isCell f ((fun _ => c) i)) = true := allTo_iff.2 (fun i hi => hc)
      by_cases hm : 0 ≤ m
      · have ha : asked f c (decide (0 ≤ m)) = 0 := by simp [asked, hok, hc, hm]
        rw [ha, if_pos rfl, if_pos rfl]; clear ha
        obtain ⟨n, hn, rfl⟩ := cell_nat hc
        have hn1 : (n : Int) < 100 := by omega
        obtain ⟨hS3, hS4⟩ := ok_seeds hok hn
        rw [Int.toNat_natCast]
        go_enter Tryd.func17, Tryd.ntmps17
        go_upto_region 1 with (fail)
        obtain ⟨W, hW, M⟩ := open2 w (fcells f) 28 Tryd.zeroCells28 28
        rw [hW]; clear hW
        go_upto_region 7 with (first
          | (refine wpList_load_part rfl 28 _ rfl w.heap.size 0 rfl (fcells f) _ (M.at 0 rfl).whole Tryd.underlying28 rfl (by rw [fcells_size]; exact sizeFd) ?_)
          | (go_at_call 37; refine (checkCells_ok f hf hok 1 (by omega) (fun _ => (n : Int)) (fun _ _ => ⟨hc1, hc2⟩) A _ _ _ (Blk.new _ _ _) (S.out.later (M.alloc _ _).below)).mono ?_; rintro e W2 ⟨rfl, hb⟩; rw [hal, errIf_true]; have M2 := (M.alloc _ _).call hb; clear hb)
          | (refine wpList_load_part rfl 28 _ rfl w.heap.size 0 rfl (fcells f) _ (M2.at 0 rfl).whole Tryd.underlying28 rfl (by rw [fcells_size]; exact sizeFd) ?_)
          | (go_at_call 47; refine (takeFrom_any f n hn hS3 hS4 m hm hm2 _ rfl _).mono ?_; rintro e W3 ⟨rfl, hb⟩; have M3 := M2.call hb; clear hb)
          | (refine wpList_store_row rfl 28 _ _ rfl W3.heap.size (fcells (turned f n (f.K n) (f.S n - minI m (f.S n)))) rfl rfl 28 _ ((M3.alloc Tryd.zeroCells28 28).at 3 rfl) (by rw [fcells_size]; exact sizeFd) (by rw [hz.out, fcells_size]) (fcells_one _) ?_))
        have M4 := (M3.alloc Tryd.zeroCells28 28).row 3 rfl (fcells (turned f n (f.K n) (f.S n - minI m (f.S n))))
        generalize World.setRow _ _ _ = W5 at M4 ⊢
        go_wp2_with (first
          | (refine wpList_load_part rfl 28 _ rfl W3.heap.size 0 rfl (fcells (turned f n (f.K n) (f.S n - minI m (f.S n)))) _ (M4.at 3 rfl).whole Tryd.underlying28 rfl (by rw [fcells_size]; exact sizeFd) ?_)
          | (refine wpList_store_row rfl 28 _ _ rfl (w.heap.size + 1) (fcells (turned f n (f.K n) (f.S n - minI m (f.S n)))) rfl rfl 28 _ (M4.at 1 rfl) (by rw [fcells_size]; exact sizeFd) (by rw [hz.out, fcells_size]) (fcells_one _) ?_))
        have M5 := M4.row 1 rfl (fcells (turned f n (f.K n) (f.S n - minI m (f.S n))))
        exact bodyPost_ret (results_row_tmp2 rfl _ _ (w.heap.size + 1) 28 _ _ _ rfl (M5.at 1 rfl) Tryd.underlying28 rfl (by rw [fcells_size]; exact sizeFd)) rfl ⟨rfl, M5.below⟩
      · have ha : asked f c (decide (0 ≤ m)) = 2 := by simp [asked, hok, hc, hm]
        rw [ha, if_neg (by omega), if_neg (by omega)]; clear ha
        go_enter Tryd.func17, Tryd.ntmps17
        go_upto_region 1 with (fail)
        obtain ⟨W, hW, M⟩ := open2 w (fcells f) 28 Tryd.zeroCells28 28
        rw [hW]; clear hW
        go_wp2_with (first
          | (refine wpList_load_part rfl 28 _ rfl w.heap.size 0 rfl (fcells f) _ (M.at 0 rfl).whole Tryd.underlying28 rfl (by rw [fcells_size]; exact sizeFd) ?_)
          | (go_at_call 37; refine (checkCells_ok f hf hok 1 (by omega) (fun _ => c) (fun _ _ => ⟨hc1, hc2⟩) A _ _ _ (Blk.new _ _ _) (S.out.later (M.alloc _ _).below)).mono ?_; rintro e W2 ⟨rfl, hb⟩; rw [hal, errIf_true]; have M2 := (M.alloc _ _).call hb; clear hb; have hv2 := (S.out.later M2.below).v2)
          | (go_at_call 38; refine (codeOf_err A 2 (by omega) (by omega) _ (S.out.later M2.below)).mono ?_; rintro e W3 ⟨rfl, rfl⟩)
          | (refine wpList_store_row rfl 28 _ _ rfl (w.heap.size + 1) Tryd.zeroCells28 rfl rfl 28 _ (M2.at 1 rfl) (by rw [hz.out]; exact sizeFd) (by rw [hz.out]) hz1.out ?_))
        have M4 := M2.row 1 rfl Tryd.zeroCells28
        exact bodyPost_ret (results_row_tmp2 rfl _ _ (w.heap.size + 1) 28 _ _ _ rfl (M4.at 1 rfl) Tryd.underlying28 rfl (by rw [hz.out]; exact sizeFd)) rfl ⟨by rw [zeroFd]; rfl, M4.below⟩
end Go.Proofs.YtfnpbpokieckcaaDoor
