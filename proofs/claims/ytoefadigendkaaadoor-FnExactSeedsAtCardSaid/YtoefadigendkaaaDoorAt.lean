/-
  The kind and the seeds of a cell: the model's, the program's.
-/
import Derived.Test.YtoefadigendkaaaDoorChk2
namespace Go.Proofs.YtoefadigendkaaaDoor
open Go Go.RowKit

theorem asked_0 {f : Fd} {c : Int} {b : Bool} (h : asked f c b = 0) : okF f = true ∧ isCell f c = true ∧ b = true := by
  unfold asked at h
  cases h1 : okF f <;> cases h2 : isCell f c <;> cases b <;> simp_all
theorem cell_nat {f : Fd} {c : Int} (h : isCell f c = true) : ∃ k : Nat, k < 100 ∧ c = (k : Int) := by
  simp only [isCell, Bool.and_eq_true, inB_iff] at h
  exact ⟨c.toNat, by omega, by omega⟩

def kindAt (f : Fd) (c : Int) : Int := if asked f c true = 0 then f.K c.toNat else 0
set_option maxRecDepth 100000 in
set_option maxHeartbeats 1000000 in
theorem specKindAt (f : Fd) (hf : f.Wf) (c : Int) (w : World) : Calls Tryd.prog 12 #[.agg (fcells f), .int .i64 c] w fun e w' => e = .returned (.tuple #[.int .i64 (kindAt f c), .int .i64 (asked f c true)]) ∧ Below w.heap.size w w' := by
  unfold kindAt
  cases h : (asked f c true == 0) with
  | false =>
    have h0 : asked f c true ≠ 0 := by simpa using h
    have h' : (asked f c true != 0) = true := by simpa using h
    rw [if_neg h0]; clear h0
    go_enter Tryd.func12, Tryd.ntmps12
    go_wp2_with (go_at_call 33; refine (l01Asked_any f hf c true w.heap.size _ (Blk.new _ _ _)).mono ?_; rintro e w' ⟨rfl, rfl⟩)
    go_ret2
    exact ⟨rfl, (Below.refl _ _).alloc (Nat.le_refl _) _⟩
  | true =>
    have h0 : asked f c true = 0 := by simpa using h
    obtain ⟨hok, hc, _⟩ := asked_0 h0
    obtain ⟨k, hk, rfl⟩ := cell_nat hc
    rw [if_pos h0, h0]
    have cK := fcells_K f k hk
    have hk1 : (k : Int) < 100 := by omega
    obtain ⟨hb1, hb2⟩ := hf.K k hk
    clear h
    go_enter Tryd.func12, Tryd.ntmps12
    go_wp2_with (go_at_call 33; refine (l01Asked_any f hf k true w.heap.size _ (Blk.new _ _ _)).mono ?_; rintro e w' ⟨rfl, rfl⟩; rw [h0])
    go_ret2
    exact ⟨rfl, (Below.refl _ _).alloc (Nat.le_refl _) _⟩
set_option maxRecDepth 100000 in
set_option maxHeartbeats 2000000 in
theorem implKindAt (f : Fd) (hf : f.Wf) (c : Int) (h1 : -9223372036854775808 ≤ c) (h2 : c ≤ 9223372036854775807) (A : Nat → Addr) (w : World) (S0 : Sents w A) : Calls Tryd.prog 14 #[.agg (fcells f), .int .i64 c] w fun e w' => e = .returned (.tuple #[.int .i64 (kindAt f c), .int .i64 (asked f c true)]) ∧ Below w.heap.size w w' := by
  have S : Hid (Sents w A) := Lib.hid S0
  clear S0
  have hif := isIfaceErr
  unfold kindAt
  cases hok : okF f with
  | false =>
    have ha : asked f c true = 1 := by simp [asked, hok]
    rw [ha, if_neg (by omega)]; clear ha
    go_enter Tryd.func14, Tryd.ntmps14
    go_upto_region 1 with (fail)
    obtain ⟨W, hW, M⟩ := open1 w (fcells f) 32
    rw [hW]; clear hW
    go_wp2_with (first
      | (refine wpList_load_part rfl 32 _ rfl w.heap.size 0 rfl (fcells f) _ (M.at 0 rfl).whole Tryd.underlying32 rfl (by rw [fcells_size]; exact sizeFd) ?_)
      | (go_at_call 36; refine (checkCells_bad f hf hok A _ _ (S.out.later (M.alloc _ _).below)).mono ?_; rintro e W2 ⟨rfl, hb⟩; have M2 := (M.alloc _ _).call hb)
      | (go_at_call 37; refine (codeOf_err A 1 (by omega) (by omega) _ (S.out.later M2.below)).mono ?_; rintro e W3 ⟨rfl, rfl⟩))
    go_ret2
    exact ⟨rfl, M2.below⟩
  | true =>
    cases hc : isCell f c with
    | false =>
      have ha : asked f c true = 2 := by simp [asked, hok, hc]
      have hal : allTo 1 (fun i => isCell f ((fun _ => c) i)) = false := allTo_false (i := 0) (by omega) hc
      rw [ha, if_neg (by omega)]; clear ha
      go_enter Tryd.func14, Tryd.ntmps14
      go_upto_region 1 with (fail)
      obtain ⟨W, hW, M⟩ := open1 w (fcells f) 32
      rw [hW]; clear hW
      go_wp2_with (first
        | (refine wpList_load_part rfl 32 _ rfl w.heap.size 0 rfl (fcells f) _ (M.at 0 rfl).whole Tryd.underlying32 rfl (by rw [fcells_size]; exact sizeFd) ?_)
        | (go_at_call 36; refine (checkCells_ok f hf hok 1 (by omega) (fun _ => c) (fun _ _ => ⟨h1, h2⟩) A _ _ _ (Blk.new _ _ _) (S.out.later (M.alloc _ _).below)).mono ?_; rintro e W2 ⟨rfl, hb⟩; rw [hal, errIf_false]; have M2 := (M.alloc _ _).call hb)
        | (go_at_call 37; refine (codeOf_err A 2 (by omega) (by omega) _ (S.out.later M2.below)).mono ?_; rintro e W3 ⟨rfl, rfl⟩))
      go_ret2
      exact ⟨rfl, M2.below⟩
    | true =>
      have ha : asked f c true = 0 := by simp [asked, hok, hc]
      have hal : allTo 1 (fun i => isCell f ((fun _ => c) i)) = true := allTo_iff.2 (fun i hi => hc)
      rw [ha, if_pos rfl]; clear ha
      obtain ⟨k, hk, rfl⟩ := cell_nat hc
      have hk1 : (k : Int) < 100 := by omega
      obtain ⟨hb1, hb2⟩ := hf.K k hk
      go_enter Tryd.func14, Tryd.ntmps14
      go_upto_region 1 with (fail)
      obtain ⟨W, hW, M⟩ := open1 w (fcells f) 32
      rw [hW]; clear hW
      go_wp2_with (first
        | (refine wpList_load_part rfl 32 _ rfl w.heap.size 0 rfl (fcells f) _ (M.at 0 rfl).whole Tryd.underlying32 rfl (by rw [fcells_size]; exact sizeFd) ?_)
        | (go_at_call 36; refine (checkCells_ok f hf hok 1 (by omega) (fun _ => (k : Int)) (fun _ _ => ⟨h1, h2⟩) A _ _ _ (Blk.new _ _ _) (S.out.later (M.alloc _ _).below)).mono ?_; rintro e W2 ⟨rfl, hb⟩; rw [hal, errIf_true]; have M2 := (M.alloc _ _).call hb; have cK := (M2.at 0 rfl).cell (fcells_K f k hk)))
      go_ret2
      exact ⟨rfl, M2.below⟩

def seedsAt (f : Fd) (c : Int) : Int := if asked f c true = 0 then f.S c.toNat else 0
set_option maxRecDepth 100000 in
set_option maxHeartbeats 1000000 in
theorem specSeedsAt (f : Fd) (hf : f.Wf) (c : Int) (w : World) : Calls Tryd.prog 15 #[.agg (fcells f), .int .i64 c] w fun e w' => e = .returned (.tuple #[.int .i64 (seedsAt f c), .int .i64 (asked f c true)]) ∧ Below w.heap.size w w' := by
  unfold seedsAt
  cases h : (asked f c true == 0) with
  | false =>
    have h0 : asked f c true ≠ 0 := by simpa using h
    have h' : (asked f c true != 0) = true := by simpa using h
    rw [if_neg h0]; clear h0
    go_enter Tryd.func15, Tryd.ntmps15
    go_wp2_with (go_at_call 33; refine (l01Asked_any f hf c true w.heap.size _ (Blk.new _ _ _)).mono ?_; rintro e w' ⟨rfl, rfl⟩)
    go_ret2
    exact ⟨rfl, (Below.refl _ _).alloc (Nat.le_refl _) _⟩
  | true =>
    have h0 : asked f c true = 0 := by simpa using h
    obtain ⟨hok, hc, _⟩ := asked_0 h0
    obtain ⟨k, hk, rfl⟩ := cell_nat hc
    rw [if_pos h0, h0]
    have cK := fcells_S f k hk
    have hk1 : (k : Int) < 100 := by omega
    obtain ⟨hb1, hb2⟩ := hf.S k hk
    clear h
    go_enter Tryd.func15, Tryd.ntmps15
    go_wp2_with (go_at_call 33; refine (l01Asked_any f hf k true w.heap.size _ (Blk.new _ _ _)).mono ?_; rintro e w' ⟨rfl, rfl⟩; rw [h0])
    go_ret2
    exact ⟨rfl, (Below.refl _ _).alloc (Nat.le_refl _) _⟩
set_option maxRecDepth 100000 in
set_option maxHeartbeats 2000000 in
theorem implSeedsAt (f : Fd) (hf : f.Wf) (c : Int) (h1 : -9223372036854775808 ≤ c) (h2 : c ≤ 9223372036854775807) (A : Nat → Addr) (w : World) (S0 : Sents w A) : Calls Tryd.prog 16 #[.agg (fcells f), .int .i64 c] w fun e w' => e = .returned (.tuple #[.int .i64 (seedsAt f c), .int .i64 (asked f c true)]) ∧ Below w.heap.size w w' := by
  have S : Hid (Sents w A) := Lib.hid S0
  clear S0
  have hif := isIfaceErr
  unfold seedsAt
  cases hok : okF f with
  | false =>
    have ha : asked f c true = 1 := by simp [asked, hok]
    rw [ha, if_neg (by omega)]; clear ha
    go_enter Tryd.func16, Tryd.ntmps16
    go_upto_region 1 with (fail)
    obtain ⟨W, hW, M⟩ := open1 w (fcells f) 32
    rw [hW]; clear hW
    go_wp2_with (first
      | (refine wpList_load_part rfl 32 _ rfl w.heap.size 0 rfl (fcells f) _ (M.at 0 rfl).whole Tryd.underlying32 rfl (by rw [fcells_size]; exact sizeFd) ?_)
      | (go_at_call 36; refine (checkCells_bad f hf hok A _ _ (S.out.later (M.alloc _ _).below)).mono ?_; rintro e W2 ⟨rfl, hb⟩; have M2 := (M.alloc _ _).call hb)
      | (go_at_call 37; refine (codeOf_err A 1 (by omega) (by omega) _ (S.out.later M2.below)).mono ?_; rintro e W3 ⟨rfl, rfl⟩))
    go_ret2
    exact ⟨rfl, M2.below⟩
  | true =>
    cases hc : isCell f c with
    | false =>
      have ha : asked f c true = 2 := by simp [asked, hok, hc]
      have hal : allTo 1 (fun i => isCell f ((fun _ => c) i)) = false := allTo_false (i := 0) (by omega) hc
      rw [ha, if_neg (by omega)]; clear ha
      go_enter Tryd.func16, Tryd.ntmps16
      go_upto_region 1 with (fail)
      obtain ⟨W, hW, M⟩ := open1 w (fcells f) 32
      rw [hW]; clear hW
      go_wp2_with (first
        | (refine wpList_load_part rfl 32 _ rfl w.heap.size 0 rfl (fcells f) _ (M.at 0 rfl).whole Tryd.underlying32 rfl (by rw [fcells_size]; exact sizeFd) ?_)
        | (go_at_call 36; refine (checkCells_ok f hf hok 1 (by omega) (fun _ => c) (fun _ _ => ⟨h1, h2⟩) A _ _ _ (Blk.new _ _ _) (S.out.later (M.alloc _ _).below)).mono ?_; rintro e W2 ⟨rfl, hb⟩; rw [hal, errIf_false]; have M2 := (M.alloc _ _).call hb)
        | (go_at_call 37; refine (codeOf_err A 2 (by omega) (by omega) _ (S.out.later M2.below)).mono ?_; rintro e W3 ⟨rfl, rfl⟩))
      go_ret2
      exact ⟨rfl, M2.below⟩
    | true =>
      have ha : asked f c true = 0 := by simp [asked, hok, hc]
      have hal : allTo 1 (fun i => isCell f ((fun _ => c) i)) = true := allTo_iff.2 (fun i hi => hc)
      rw [ha, if_pos rfl]; clear ha
      obtain ⟨k, hk, rfl⟩ := cell_nat hc
      have hk1 : (k : Int) < 100 := by omega
      obtain ⟨hb1, hb2⟩ := hf.S k hk
      go_enter Tryd.func16, Tryd.ntmps16
      go_upto_region 1 with (fail)
      obtain ⟨W, hW, M⟩ := open1 w (fcells f) 32
      rw [hW]; clear hW
      go_wp2_with (first
        | (refine wpList_load_part rfl 32 _ rfl w.heap.size 0 rfl (fcells f) _ (M.at 0 rfl).whole Tryd.underlying32 rfl (by rw [fcells_size]; exact sizeFd) ?_)
        | (go_at_call 36; refine (checkCells_ok f hf hok 1 (by omega) (fun _ => (k : Int)) (fun _ _ => ⟨h1, h2⟩) A _ _ _ (Blk.new _ _ _) (S.out.later (M.alloc _ _).below)).mono ?_; rintro e W2 ⟨rfl, hb⟩; rw [hal, errIf_true]; have M2 := (M.alloc _ _).call hb; have cK := (M2.at 0 rfl).cell (fcells_S f k hk)))
      go_ret2
      exact ⟨rfl, M2.below⟩
end Go.Proofs.YtoefadigendkaaaDoor
