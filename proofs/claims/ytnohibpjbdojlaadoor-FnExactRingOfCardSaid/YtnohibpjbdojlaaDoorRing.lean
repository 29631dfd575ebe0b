/-
  RingOf: the model's, the program's.
-/
import Derived.Test.YtnohibpjbdojlaaDoorWhere
import Derived.Test.YtnohibpjbdojlaaDoorSquare
import Derived.Deep.QuietTactic
import Derived.Test.YtnohibpjbdojlaaDoorRegM
namespace Go.Proofs.YtnohibpjbdojlaaDoor
open Go Go.RowKit

def ringQ (c : Nat) (s : Int) (k : Nat) : Bool := decide (sq c k ≤ s)
def ringCode (f : Fd) (c s : Int) : Int := asked f c (inB s 0 200)
def ringOf (f : Fd) (c s : Int) : Nat → Int := if ringCode f c s = 0 then wantSet f (ringQ c.toNat s) 100 else fun _ => 0
theorem asked_no {f : Fd} {c : Int} {b : Bool} (h : asked f c b = 0) : okF f = true ∧ isCell f c = true ∧ b = true := asked_0 h
set_option maxRecDepth 100000 in
set_option maxHeartbeats 2000000 in
theorem l01Ring_any (f : Fd) (hf : f.Wf) (c : Nat) (hc : c < 100) (s : Int) (hs1 : -9223372036854775808 ≤ s) (hs2 : s ≤ 9223372036854775807) (b : Nat) (w : World) (B : Blk w b (fcells f) 33) :
    Calls Tryd.prog 20 #[.pointer (some ⟨b, 0, none⟩), .int .i64 c, .int .i64 s] w fun e w' => e = .returned (.agg (acells .u64 2 (wantSet f (ringQ c s) 100))) ∧ Below w.heap.size w w' := by
  have HB := Lib.hid B
  clear B
  go_enter Tryd.func20, Tryd.ntmps20
  go_upto_region 2 with (fail)
  rw [zero2]
  obtain ⟨W, hW, M⟩ := open2 w (acells .u64 2 (fun _ => 0)) 30 (acells .u64 2 (fun _ => 0)) 30
  rw [hW]; clear hW
  have M0 : Mem w W [⟨w.heap.size, acells .u64 2 (fun _ => 0), 30⟩, ⟨w.heap.size + 1, acells .u64 2 (wantSet f (ringQ c s) 0), 30⟩] := M
  clear M
  go_wp2_with fail
  go_loopw [8] (fun i wr => ∃ k : Nat, k ≤ 100 ∧ i = .int .i64 k ∧ Hid (Mem w wr [⟨w.heap.size, acells .u64 2 (fun _ => 0), 30⟩, ⟨w.heap.size + 1, acells .u64 2 (wantSet f (ringQ c s) k), 30⟩])) (fun i _ => 100 - (intOf i).toNat)
  case atStart => exact ⟨0, by omega, rfl, Lib.hid M0⟩
  case round =>
    clear M0
    obtain ⟨k, hk, rfl, hM⟩ := hrel
    by_cases hlt : k < 100
    · have hBk := Lib.hid (HB.out.later hM.out.below)
      cases hic : isCell f k with
      | false =>
        have hno : Hid (wantSet f (ringQ c s) (k + 1) = wantSet f (ringQ c s) k) := Lib.hid (wantSet_no (by rw [hic]; rfl))
        go_wp2_with (go_at_call 33; refine (l01Is_any f k b _ hf.W hf.H hBk.out).mono ?_; rintro e w' ⟨rfl, rfl⟩; rw [hic])
        go_roundw
        case rel => exact ⟨k + 1, by omega, by go_num, by rw [hno.out]; exact hM⟩
        case measure => simp [intOf]; omega
      | true =>
        by_cases hle : sq c k ≤ s
        · have hyes : Hid (wantSet f (ringQ c s) (k + 1) = putC (wantSet f (ringQ c s) k) k) := Lib.hid (wantSet_yes hic (by unfold ringQ; exact decide_eq_true hle))
          go_wp2_with (first
            | (go_at_call 33; refine (l01Is_any f k b _ hf.W hf.H hBk.out).mono ?_; rintro e w' ⟨rfl, rfl⟩; rw [hic])
            | (go_at_call 29; refine (l01Square_any c k hc hlt _).mono ?_; rintro e w' ⟨rfl, rfl⟩)
            | (go_at_call 38; refine (l01Put_any (wantSet f (ringQ c s) k) k hlt _ _ (hM.out.at 1 rfl)).mono ?_; rintro e w2 ⟨⟨_, rfl⟩, i, vv, hw2, hset⟩; have M4 := Lib.hid (hM.out.set 1 i vv rfl _ hset).drew; rw [hw2] at M4))
          go_roundw
          case rel => exact ⟨k + 1, by omega, by go_num, by rw [hyes.out]; exact M4⟩
          case measure => simp [intOf]; omega
        · have hno : Hid (wantSet f (ringQ c s) (k + 1) = wantSet f (ringQ c s) k) := Lib.hid (wantSet_no (by unfold ringQ; rw [decide_eq_false hle, Bool.and_false]))
          have hgt : s < sq c k := by omega
          go_wp2_with (first
            | (go_at_call 33; refine (l01Is_any f k b _ hf.W hf.H hBk.out).mono ?_; rintro e w' ⟨rfl, rfl⟩; rw [hic])
            | (go_at_call 29; refine (l01Square_any c k hc hlt _).mono ?_; rintro e w' ⟨rfl, rfl⟩))
          go_roundw
          case rel => exact ⟨k + 1, by omega, by go_num, by rw [hno.out]; exact hM⟩
          case measure => simp [intOf]; omega
    · obtain rfl : k = 100 := by omega
      go_wp2_with (first
        | (refine wpList_load_part rfl 30 _ rfl (w.heap.size + 1) 0 rfl (acells .u64 2 (wantSet f (ringQ c s) 100)) _ (hM.out.at 1 rfl).whole Tryd.underlying30 rfl (by rw [acells_size]; exact sizeC) ?_)
        | (refine wpList_store_row rfl 30 _ _ rfl (w.heap.size) (acells .u64 2 (wantSet f (ringQ c s) 100)) rfl rfl 30 _ (hM.out.at 0 rfl) (by rw [acells_size]; exact sizeC) (by simp only [acells_size]) (acells_one _ _ _) ?_))
      have M2 := hM.out.row 0 rfl (acells .u64 2 (wantSet f (ringQ c s) 100))
      exact bodyPost_ret (results_cell_row rfl _ _ (w.heap.size) 30 _ _ _ rfl (M2.at 0 rfl) Tryd.underlying30 rfl (by rw [acells_size]; exact sizeC)) rfl ⟨rfl, M2.below⟩
set_option maxRecDepth 100000 in
set_option maxHeartbeats 2000000 in
theorem specRingOf (f : Fd) (hf : f.Wf) (c s : Int) (hs1 : -9223372036854775808 ≤ s) (hs2 : s ≤ 9223372036854775807) (w : World) : Calls Tryd.prog 7 #[.agg (fcells f), .int .i64 c, .int .i64 s] w fun e w' => e = .returned (.tuple #[.agg (acells .u64 2 (ringOf f c s)), .int .i64 (ringCode f c s)]) ∧ Below w.heap.size w w' := by
  unfold ringOf ringCode
  cases h : (asked f c (inB s 0 200) == 0) with
  | false =>
    have h0 : asked f c (inB s 0 200) ≠ 0 := by simpa using h
    have h' : (asked f c (inB s 0 200) != 0) = true := by simpa using h
    rw [if_neg h0]; clear h0
    go_enter Tryd.func7, Tryd.ntmps7
    go_upto_region 1 with (fail)
    rw [zero2]
    obtain ⟨W, hW, M⟩ := open2 w (fcells f) 33 (acells .u64 2 (fun _ => 0)) 30
    rw [hW]; clear hW
    go_wp2_with (first
      | (go_at_call 19; refine (l00In_any _ _ _ _).mono ?_; rintro e w' ⟨rfl, rfl⟩)
      | (go_at_call 18; refine (l01Asked_any f hf c _ _ _ (M.at 0 rfl)).mono ?_; rintro e w' ⟨rfl, rfl⟩)
      | (refine wpList_store_row rfl 30 _ _ rfl (w.heap.size + 1) (acells .u64 2 (fun _ => 0)) rfl rfl 30 _ (M.at 1 rfl) (by rw [acells_size]; exact sizeC) (by simp only [acells_size]) (acells_one _ _ _) ?_))
    have M2 := M.row 1 rfl (acells .u64 2 (fun _ => 0))
    exact bodyPost_ret (results_row_tmp rfl _ _ (w.heap.size + 1) 30 _ _ _ rfl (M2.at 1 rfl) Tryd.underlying30 rfl (by rw [acells_size]; exact sizeC)) rfl ⟨rfl, M2.below⟩
  | true =>
    have h0 : asked f c (inB s 0 200) = 0 := by simpa using h
    obtain ⟨hok, hc, hss⟩ := asked_0 h0
    rw [if_pos h0, h0]
    obtain ⟨n, hn, rfl⟩ := cell_nat hc
    rw [Int.toNat_natCast]
    clear h
    rw [hss] at h0
    go_enter Tryd.func7, Tryd.ntmps7
    go_upto_region 1 with (fail)
    rw [zero2]
    obtain ⟨W, hW, M⟩ := open2 w (fcells f) 33 (acells .u64 2 (fun _ => 0)) 30
    rw [hW]; clear hW
    go_wp2_with (first
      | (go_at_call 19; refine (l00In_any _ _ _ _).mono ?_; rintro e w' ⟨rfl, rfl⟩; rw [hss])
      | (go_at_call 18; refine (l01Asked_any f hf n _ _ _ (M.at 0 rfl)).mono ?_; rintro e w' ⟨rfl, rfl⟩; rw [h0])
      | (go_at_call 20; refine (l01Ring_any f hf n hn s hs1 hs2 _ _ (M.at 0 rfl)).mono ?_; rintro e W2 ⟨rfl, hb⟩; have M2 := M.call hb)
      | (refine wpList_store_row rfl 30 _ _ rfl (w.heap.size + 1) (acells .u64 2 (wantSet f (ringQ n s) 100)) rfl rfl 30 _ (M2.at 1 rfl) (by rw [acells_size]; exact sizeC) (by simp only [acells_size]) (acells_one _ _ _) ?_))
    have M3 := M2.row 1 rfl (acells .u64 2 (wantSet f (ringQ n s) 100))
    exact bodyPost_ret (results_row_tmp rfl _ _ (w.heap.size + 1) 30 _ _ _ rfl (M3.at 1 rfl) Tryd.underlying30 rfl (by rw [acells_size]; exact sizeC)) rfl ⟨rfl, M3.below⟩
theorem load_i64 (b off : Nat) (n : Int) (w : World) (c : w.cell? ⟨b, off, none⟩ = some (.int .i64 n)) : (Instr.loadAt 2 (.pointer (some ⟨b, off, none⟩))).run Tryd.prog w = .ok (.int .i64 n) w := by
  simp [go_sem, c]
set_option maxRecDepth 100000 in
theorem ring_closure (c k : Nat) (hc : c < 100) (hk : k < 100) (s : Int) (hs1 : -9223372036854775808 ≤ s) (hs2 : s ≤ 9223372036854775807) (pc ps : Nat) (w : World) (h1 : w.cell? ⟨pc, 0, none⟩ = some (.int .i64 c)) (h2 : w.cell? ⟨ps, 0, none⟩ = some (.int .i64 s)) :
    Calls Tryd.prog 26 #[.int .i64 k, .pointer (some ⟨pc, 0, none⟩), .pointer (some ⟨ps, 0, none⟩)] w fun e w' => e = .returned (.bool (ringQ c s k)) ∧ Below w.heap.size w w' := by
  unfold ringQ
  go_enter Tryd.func26, Tryd.ntmps26
  go_wp2_with fail
  refine wp_region_rel (DL [dV (.int .i64 c), dV (.int .i64 k), dV (.int .i64 (sq c k)), dV (.int .i64 s), dV (.bool (decide (sq c k ≤ s))), dV (.bool (decide (sq c k ≤ s)))]) (fun w' => Below w.heap.size w w') (by kernel_rfl) (by kernel_rfl) (fun _ _ h h' => h.trans (h'.mono h.size))
    (stays_DL (fun d hd => by
      simp only [List.mem_cons, List.mem_nil_iff, or_false] at hd
      rcases hd with rfl | rfl | rfl | rfl | rfl | rfl <;> exact stay_V)) (Below.refl _ _).drew ?_
  refine rel_cell 2 _ rfl pc 0 rfl (.int .i64 c) rfl rfl (fun w' c => load_i64 _ _ _ w' c) (fun w' hw' => cell_later h1 hw') (fun _ => ?_)
  simp only [Act.put, List.setIfInBounds_toArray, List.set_cons_zero, List.set_cons_succ]
  refine rel_val (.int .i64 k) rfl rfl (fun _ _ => rfl) (fun _ => ?_)
  simp only [Act.put, List.setIfInBounds_toArray, List.set_cons_zero, List.set_cons_succ]
  refine rel_call (.int .i64 (sq c k)) 27 #[.int .i64 c, .int .i64 k] rfl rfl rfl rfl (enters_of Tryd.func27 (by kernel_rfl) rfl) (fun w' _ => (squareBetween_any c k hc hk w').mono (fun e w2 h => ⟨h.1, by rw [h.2]; exact Below.refl _ _⟩)) (fun _ => ?_)
  simp only [Act.put, List.setIfInBounds_toArray, List.set_cons_zero, List.set_cons_succ]
  refine rel_cell 2 _ rfl ps 0 rfl (.int .i64 s) rfl rfl (fun w' c => load_i64 _ _ _ w' c) (fun w' hw' => cell_later h2 hw') (fun _ => ?_)
  simp only [Act.put, List.setIfInBounds_toArray, List.set_cons_zero, List.set_cons_succ]
  refine rel_val (.bool (decide (sq c k ≤ s))) rfl rfl (fun _ _ => rfl) (fun _ => ?_)
  simp only [Act.put, List.setIfInBounds_toArray, List.set_cons_zero, List.set_cons_succ]
  refine rel_val (.bool (decide (sq c k ≤ s))) rfl rfl (fun _ _ => rfl) (fun _ => ?_)
  simp only [Act.put, List.setIfInBounds_toArray, List.set_cons_zero, List.set_cons_succ]
  refine rel_nil (fun w' inv => ?_)
  have hb := inv.cls
  clear inv
  go_wp2_with fail
  go_ret
  exact ⟨rfl, hb⟩

set_option maxRecDepth 100000 in
set_option maxHeartbeats 4000000 in
theorem implRingOf (f : Fd) (hf : f.Wf) (c s : Int) (hc1 : -9223372036854775808 ≤ c) (hc2 : c ≤ 9223372036854775807) (hs1 : -9223372036854775808 ≤ s) (hs2 : s ≤ 9223372036854775807) (A : Nat → Addr) (w : World) (S0 : Sents w A) : Calls Tryd.prog 9 #[.agg (fcells f), .int .i64 c, .int .i64 s] w fun e w' => e = .returned (.tuple #[.agg (acells .u64 2 (ringOf f c s)), .int .i64 (ringCode f c s)]) ∧ Below w.heap.size w w' := by
  have S : Hid (Sents w A) := Lib.hid S0
  clear S0
  have hif := isIfaceErr
  unfold ringOf ringCode
  cases hok : okF f with
  | false =>
    have ha : asked f c (inB s 0 200) = 1 := by simp [asked, hok]
    rw [ha, if_neg (by omega)]; clear ha
    go_enter Tryd.func9, Tryd.ntmps9
    go_upto_region 1 with (fail)
    rw [zero2]
    obtain ⟨W0, hW0, M0⟩ := open3 w (fcells f) 33 #[.int .i64 c] 2 #[.int .i64 s] 2
    have M : Mem w (W0.alloc (.cells (acells .u64 2 (fun _ => 0)) 30)) [⟨w.heap.size, fcells f, 33⟩, ⟨w.heap.size + 1, #[.int .i64 c], 2⟩, ⟨w.heap.size + 1 + 1, #[.int .i64 s], 2⟩, ⟨w.heap.size + 1 + 1 + 1, acells .u64 2 (fun _ => 0), 30⟩] := by
      have h := M0.alloc (acells .u64 2 (fun _ => 0)) 30
      have hs : W0.heap.size = w.heap.size + 1 + 1 + 1 := by rw [← hW0]; simp
      rw [hs] at h
      exact h
    rw [hW0]; clear hW0 M0
    generalize W0.alloc _ = W at M ⊢
    have cc := (M.at 1 rfl).cell (i := 0) rfl
    go_wp2_with (first
      | (refine wpList_load_part rfl 33 _ rfl (w.heap.size) 0 rfl (fcells f) _ (M.at 0 rfl).whole Tryd.underlying33 rfl (by rw [fcells_size]; exact sizeFd) ?_)
      | (go_at_call 23; refine (checkCells_bad f hf hok A _ _ (S.out.later (M.alloc _ _).below)).mono ?_; rintro e W2 ⟨rfl, hb⟩; have M2 := (M.alloc _ _).call hb; clear hb)
      | (go_at_call 24; refine (codeOf_err A 1 (by omega) (by omega) _ (S.out.later M2.below)).mono ?_; rintro e W3 ⟨rfl, rfl⟩)
      | (refine wpList_store_row rfl 30 _ _ rfl (w.heap.size + 1 + 1 + 1) (acells .u64 2 (fun _ => 0)) rfl rfl 30 _ (M2.at 3 rfl) (by rw [acells_size]; exact sizeC) (by simp only [acells_size]) (acells_one _ _ _) ?_))
    have M4 := M2.row 3 rfl (acells .u64 2 (fun _ => 0))
    exact bodyPost_ret (results_row_tmp rfl _ _ (w.heap.size + 1 + 1 + 1) 30 _ _ _ rfl (M4.at 3 rfl) Tryd.underlying30 rfl (by rw [acells_size]; exact sizeC)) rfl ⟨rfl, M4.below⟩
  | true =>
    cases hc : isCell f c with
    | false =>
      have ha : asked f c (inB s 0 200) = 2 := by simp [asked, hok, hc]
      have hal : allTo 1 (fun i => isCell f ((fun _ => c) i)) = false := allTo_false (i := 0) (by omega) hc
      rw [ha, if_neg (by omega)]; clear ha
      go_enter Tryd.func9, Tryd.ntmps9
      go_upto_region 1 with (fail)
      rw [zero2]
      obtain ⟨W0, hW0, M0⟩ := open3 w (fcells f) 33 #[.int .i64 c] 2 #[.int .i64 s] 2
      have M : Mem w (W0.alloc (.cells (acells .u64 2 (fun _ => 0)) 30)) [⟨w.heap.size, fcells f, 33⟩, ⟨w.heap.size + 1, #[.int .i64 c], 2⟩, ⟨w.heap.size + 1 + 1, #[.int .i64 s], 2⟩, ⟨w.heap.size + 1 + 1 + 1, acells .u64 2 (fun _ => 0), 30⟩] := by
        have h := M0.alloc (acells .u64 2 (fun _ => 0)) 30
        have hs : W0.heap.size = w.heap.size + 1 + 1 + 1 := by rw [← hW0]; simp
        rw [hs] at h
        exact h
      rw [hW0]; clear hW0 M0
      generalize W0.alloc _ = W at M ⊢
      have cc := (M.at 1 rfl).cell (i := 0) rfl
      go_wp2_with (first
        | (refine wpList_load_part rfl 33 _ rfl (w.heap.size) 0 rfl (fcells f) _ (M.at 0 rfl).whole Tryd.underlying33 rfl (by rw [fcells_size]; exact sizeFd) ?_)
        | (go_at_call 23; refine (checkCells_ok f hf hok 1 (by omega) (fun _ => c) (fun _ _ => ⟨hc1, hc2⟩) A _ _ _ (Blk.new _ _ _) (S.out.later (M.alloc _ _).below)).mono ?_; rintro e W2 ⟨rfl, hb⟩; rw [hal, errIf_false]; have M2 := (M.alloc _ _).call hb; clear hb)
        | (go_at_call 24; refine (codeOf_err A 2 (by omega) (by omega) _ (S.out.later M2.below)).mono ?_; rintro e W3 ⟨rfl, rfl⟩)
        | (refine wpList_store_row rfl 30 _ _ rfl (w.heap.size + 1 + 1 + 1) (acells .u64 2 (fun _ => 0)) rfl rfl 30 _ (M2.at 3 rfl) (by rw [acells_size]; exact sizeC) (by simp only [acells_size]) (acells_one _ _ _) ?_))
      have M4 := M2.row 3 rfl (acells .u64 2 (fun _ => 0))
      exact bodyPost_ret (results_row_tmp rfl _ _ (w.heap.size + 1 + 1 + 1) 30 _ _ _ rfl (M4.at 3 rfl) Tryd.underlying30 rfl (by rw [acells_size]; exact sizeC)) rfl ⟨rfl, M4.below⟩
    | true =>
      have hal : allTo 1 (fun i => isCell f ((fun _ => c) i)) = true := allTo_iff.2 (fun i hi => hc)
      by_cases hl : 0 ≤ s ∧ s ≤ 200
      · obtain ⟨hl1, hl2⟩ := hl
        have ha : asked f c (inB s 0 200) = 0 := by simp [asked, hok, hc, inB_iff.2 ⟨hl1, hl2⟩]
        rw [ha, if_pos rfl]; clear ha
        obtain ⟨n, hn, rfl⟩ := cell_nat hc
        rw [Int.toNat_natCast]
        go_enter Tryd.func9, Tryd.ntmps9
        go_upto_region 1 with (fail)
        rw [zero2]
        obtain ⟨W0, hW0, M0⟩ := open3 w (fcells f) 33 #[.int .i64 (n : Int)] 2 #[.int .i64 s] 2
        have M : Mem w (W0.alloc (.cells (acells .u64 2 (fun _ => 0)) 30)) [⟨w.heap.size, fcells f, 33⟩, ⟨w.heap.size + 1, #[.int .i64 (n : Int)], 2⟩, ⟨w.heap.size + 1 + 1, #[.int .i64 s], 2⟩, ⟨w.heap.size + 1 + 1 + 1, acells .u64 2 (fun _ => 0), 30⟩] := by
          have h := M0.alloc (acells .u64 2 (fun _ => 0)) 30
          have hs : W0.heap.size = w.heap.size + 1 + 1 + 1 := by rw [← hW0]; simp
          rw [hs] at h
          exact h
        rw [hW0]; clear hW0 M0
        generalize W0.alloc _ = W at M ⊢
        have cc := (M.at 1 rfl).cell (i := 0) rfl
        go_wp2_with (first
          | (refine wpList_load_part rfl 33 _ rfl (w.heap.size) 0 rfl (fcells f) _ (M.at 0 rfl).whole Tryd.underlying33 rfl (by rw [fcells_size]; exact sizeFd) ?_)
          | (go_at_call 23; refine (checkCells_ok f hf hok 1 (by omega) (fun _ => (n : Int)) (fun _ _ => ⟨hc1, hc2⟩) A _ _ _ (Blk.new _ _ _) (S.out.later (M.alloc _ _).below)).mono ?_; rintro e W2 ⟨rfl, hb⟩; rw [hal, errIf_true]; have M2 := (M.alloc _ _).call hb; clear hb; have cs := (M2.at 2 rfl).cell (i := 0) rfl)
          | (refine wpList_load_part rfl 33 _ rfl (w.heap.size) 0 rfl (fcells f) _ (M2.at 0 rfl).whole Tryd.underlying33 rfl (by rw [fcells_size]; exact sizeFd) ?_)
          | (go_at_call 25; refine (cellsWhere_any f hok 26 #[.pointer (some ⟨w.heap.size + 1, 0, none⟩), .pointer (some ⟨w.heap.size + 1 + 1, 0, none⟩)] (ringQ n s) (fun w' => w'.cell? ⟨w.heap.size + 1, 0, none⟩ = some (.int .i64 (n : Int)) ∧ w'.cell? ⟨w.heap.size + 1 + 1, 0, none⟩ = some (.int .i64 s)) (fun _ _ h hb => ⟨cell_later h.1 hb, cell_later h.2 hb⟩) (fun k w' hk h => ring_closure n k hn (isCell_lt hk) s hs1 hs2 _ _ w' h.1 h.2) _ ⟨(M2.at 1 rfl).cell (i := 0) rfl, (M2.at 2 rfl).cell (i := 0) rfl⟩ (enters_of Tryd.func26 (by kernel_rfl) rfl)).mono ?_; rintro e W5 ⟨rfl, hb5⟩; have M5 := M2.call hb5; clear hb5)
          | (refine wpList_store_row rfl 30 _ _ rfl (w.heap.size + 1 + 1 + 1) (acells .u64 2 (wantSet f (ringQ n s) 100)) rfl rfl 30 _ (M5.at 3 rfl) (by rw [acells_size]; exact sizeC) (by simp only [acells_size]) (acells_one _ _ _) ?_))
        have M6 := M5.row 3 rfl (acells .u64 2 (wantSet f (ringQ n s) 100))
        exact bodyPost_ret (results_row_tmp rfl _ _ (w.heap.size + 1 + 1 + 1) 30 _ _ _ rfl (M6.at 3 rfl) Tryd.underlying30 rfl (by rw [acells_size]; exact sizeC)) rfl ⟨rfl, M6.below⟩
      · have hq : inB s 0 200 = false := by
          cases h : inB s 0 200 with
          | false => rfl
          | true => exact absurd (inB_iff.1 h) hl
        have ha : asked f c (inB s 0 200) = 2 := by simp [asked, hok, hc, hq]
        rw [ha, if_neg (by omega)]; clear ha
        by_cases hneg : s < 0
        · clear hl hq
          go_enter Tryd.func9, Tryd.ntmps9
          go_upto_region 1 with (fail)
          rw [zero2]
          obtain ⟨W0, hW0, M0⟩ := open3 w (fcells f) 33 #[.int .i64 c] 2 #[.int .i64 s] 2
          have M : Mem w (W0.alloc (.cells (acells .u64 2 (fun _ => 0)) 30)) [⟨w.heap.size, fcells f, 33⟩, ⟨w.heap.size + 1, #[.int .i64 c], 2⟩, ⟨w.heap.size + 1 + 1, #[.int .i64 s], 2⟩, ⟨w.heap.size + 1 + 1 + 1, acells .u64 2 (fun _ => 0), 30⟩] := by
            have h := M0.alloc (acells .u64 2 (fun _ => 0)) 30
            have hs : W0.heap.size = w.heap.size + 1 + 1 + 1 := by rw [← hW0]; simp
            rw [hs] at h
            exact h
          rw [hW0]; clear hW0 M0
          generalize W0.alloc _ = W at M ⊢
          have cc := (M.at 1 rfl).cell (i := 0) rfl
          go_wp2_with (first
            | (refine wpList_load_part rfl 33 _ rfl (w.heap.size) 0 rfl (fcells f) _ (M.at 0 rfl).whole Tryd.underlying33 rfl (by rw [fcells_size]; exact sizeFd) ?_)
            | (go_at_call 23; refine (checkCells_ok f hf hok 1 (by omega) (fun _ => c) (fun _ _ => ⟨hc1, hc2⟩) A _ _ _ (Blk.new _ _ _) (S.out.later (M.alloc _ _).below)).mono ?_; rintro e W2 ⟨rfl, hb⟩; rw [hal, errIf_true]; have M2 := (M.alloc _ _).call hb; clear hb; have cs := (M2.at 2 rfl).cell (i := 0) rfl; have hv2 := (S.out.later M2.below).v2)
            | (go_at_call 24; refine (codeOf_err A 2 (by omega) (by omega) _ (S.out.later M2.below)).mono ?_; rintro e W3 ⟨rfl, rfl⟩)
            | (refine wpList_store_row rfl 30 _ _ rfl (w.heap.size + 1 + 1 + 1) (acells .u64 2 (fun _ => 0)) rfl rfl 30 _ (M2.at 3 rfl) (by rw [acells_size]; exact sizeC) (by simp only [acells_size]) (acells_one _ _ _) ?_))
          have M4 := M2.row 3 rfl (acells .u64 2 (fun _ => 0))
          exact bodyPost_ret (results_row_tmp rfl _ _ (w.heap.size + 1 + 1 + 1) 30 _ _ _ rfl (M4.at 3 rfl) Tryd.underlying30 rfl (by rw [acells_size]; exact sizeC)) rfl ⟨rfl, M4.below⟩
        · have hgt : 200 < s := by omega
          have hge : 0 ≤ s := by omega
          clear hl hq hneg
          go_enter Tryd.func9, Tryd.ntmps9
          go_upto_region 1 with (fail)
          rw [zero2]
          obtain ⟨W0, hW0, M0⟩ := open3 w (fcells f) 33 #[.int .i64 c] 2 #[.int .i64 s] 2
          have M : Mem w (W0.alloc (.cells (acells .u64 2 (fun _ => 0)) 30)) [⟨w.heap.size, fcells f, 33⟩, ⟨w.heap.size + 1, #[.int .i64 c], 2⟩, ⟨w.heap.size + 1 + 1, #[.int .i64 s], 2⟩, ⟨w.heap.size + 1 + 1 + 1, acells .u64 2 (fun _ => 0), 30⟩] := by
            have h := M0.alloc (acells .u64 2 (fun _ => 0)) 30
            have hs : W0.heap.size = w.heap.size + 1 + 1 + 1 := by rw [← hW0]; simp
            rw [hs] at h
            exact h
          rw [hW0]; clear hW0 M0
          generalize W0.alloc _ = W at M ⊢
          have cc := (M.at 1 rfl).cell (i := 0) rfl
          go_wp2_with (first
            | (refine wpList_load_part rfl 33 _ rfl (w.heap.size) 0 rfl (fcells f) _ (M.at 0 rfl).whole Tryd.underlying33 rfl (by rw [fcells_size]; exact sizeFd) ?_)
            | (go_at_call 23; refine (checkCells_ok f hf hok 1 (by omega) (fun _ => c) (fun _ _ => ⟨hc1, hc2⟩) A _ _ _ (Blk.new _ _ _) (S.out.later (M.alloc _ _).below)).mono ?_; rintro e W2 ⟨rfl, hb⟩; rw [hal, errIf_true]; have M2 := (M.alloc _ _).call hb; clear hb; have cs := (M2.at 2 rfl).cell (i := 0) rfl; have hv2 := (S.out.later M2.below).v2)
            | (go_at_call 24; refine (codeOf_err A 2 (by omega) (by omega) _ (S.out.later M2.below)).mono ?_; rintro e W3 ⟨rfl, rfl⟩)
            | (refine wpList_store_row rfl 30 _ _ rfl (w.heap.size + 1 + 1 + 1) (acells .u64 2 (fun _ => 0)) rfl rfl 30 _ (M2.at 3 rfl) (by rw [acells_size]; exact sizeC) (by simp only [acells_size]) (acells_one _ _ _) ?_))
          have M4 := M2.row 3 rfl (acells .u64 2 (fun _ => 0))
          exact bodyPost_ret (results_row_tmp rfl _ _ (w.heap.size + 1 + 1 + 1) 30 _ _ _ rfl (M4.at 3 rfl) Tryd.underlying30 rfl (by rw [acells_size]; exact sizeC)) rfl ⟨rfl, M4.below⟩
end Go.Proofs.YtnohibpjbdojlaaDoor
