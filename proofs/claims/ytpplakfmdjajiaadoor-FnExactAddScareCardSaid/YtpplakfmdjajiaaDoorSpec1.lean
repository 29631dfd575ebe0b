/-
  The model's small tests on numbers, cells and fields.
-/
import Derived.Test.YtpplakfmdjajiaaDoorFld
import Derived.Test.YtpplakfmdjajiaaDoorSpec0
import Derived.Deep.DeepCutAuto
namespace Go.Proofs.YtpplakfmdjajiaaDoor
open Go Go.RowKit

theorem l01Kind_any (n : Int) (w : World) : Calls Tryd.prog 125 #[.int .i64 n] w fun e w' => e = .returned (.bool (inB n 0 3)) ∧ w = w' := by
  go_enter Tryd.func125, Tryd.ntmps125
  go_wp2_with (go_at_call 53; refine (l00In_any _ _ _ _).mono ?_; rintro e w' ⟨rfl, rfl⟩)
  go_ret
  exact ⟨rfl, rfl⟩
theorem l01Seeds_any (n : Int) (w : World) : Calls Tryd.prog 126 #[.int .i64 n] w fun e w' => e = .returned (.bool (inB n 0 1000)) ∧ w = w' := by
  go_enter Tryd.func126, Tryd.ntmps126
  go_wp2_with (go_at_call 53; refine (l00In_any _ _ _ _).mono ?_; rintro e w' ⟨rfl, rfl⟩)
  go_ret
  exact ⟨rfl, rfl⟩

/-- Is the number a cell of the field? -/
def isCell (f : Fd) (c : Int) : Bool := inB c 0 99 && decide (c % 10 < f.W) && decide (c / 10 < f.H)
set_option maxRecDepth 100000 in
theorem l01Is_any (f : Fd) (c : Int) (b : Nat) (w : World) (hW : -128 ≤ f.W ∧ f.W ≤ 127) (hH : -128 ≤ f.H ∧ f.H ≤ 127) (B : Blk w b (fcells f) 32) :
    Calls Tryd.prog 43 #[.pointer (some ⟨b, 0, none⟩), .int .i64 c] w fun e w' => e = .returned (.bool (isCell f c)) ∧ w = w' := by
  have c0 := B.cell (fcells_0 f)
  have c1 := B.cell (fcells_1 f)
  obtain ⟨hW1, hW2⟩ := hW
  obtain ⟨hH1, hH2⟩ := hH
  cases h : inB c 0 99 with
  | false =>
    have hr : isCell f c = false := by simp [isCell, h]
    rw [hr]
    clear hr
    go_enter Tryd.func43, Tryd.ntmps43
    go_wp2_with (go_at_call 53; refine (l00In_any _ _ _ _).mono ?_; rintro e w' ⟨rfl, rfl⟩)
    go_ret
    exact ⟨rfl, rfl⟩
  | true =>
    obtain ⟨h1, h2⟩ := inB_iff.1 h
    by_cases h3 : c % 10 < f.W
    · have hr : isCell f c = decide (c / 10 < f.H) := by simp [isCell, h, h3]
      rw [hr]
      clear hr
      go_enter Tryd.func43, Tryd.ntmps43
      go_wp2_with (go_at_call 53; refine (l00In_any _ _ _ _).mono ?_; rintro e w' ⟨rfl, rfl⟩)
      go_ret
      exact ⟨rfl, rfl⟩
    · have hr : isCell f c = false := by simp [isCell, h3]
      rw [hr]
      clear hr
      go_enter Tryd.func43, Tryd.ntmps43
      go_wp2_with (go_at_call 53; refine (l00In_any _ _ _ _).mono ?_; rintro e w' ⟨rfl, rfl⟩)
      go_ret
      exact ⟨rfl, rfl⟩

/-- Is what a number has as in a valid field? -/
def cellOk (f : Fd) (i : Nat) : Bool := inB (f.K i) 0 3 && inB (f.S i) 0 1000 && (f.K i == 0 || f.S i == 0) && (isCell f i || (f.K i == 0 && f.S i == 0))
/-- Is the field valid? -/
def okF (f : Fd) : Bool := inB f.W 1 10 && inB f.H 1 10 && allTo 100 (cellOk f)

set_option maxRecDepth 100000 in
set_option maxHeartbeats 2000000 in
theorem l01Ok_any (f : Fd) (hf : f.Wf) (b : Nat) (w : World) (B : Blk w b (fcells f) 32) :
    Calls Tryd.prog 99 #[.pointer (some ⟨b, 0, none⟩)] w fun e w' => e = .returned (.bool (okF f)) ∧ w = w' := by
  have c0 := B.cell (fcells_0 f)
  have c1 := B.cell (fcells_1 f)
  obtain ⟨hW1, hW2⟩ := hf.W
  obtain ⟨hH1, hH2⟩ := hf.H
  cases h1 : inB f.W 1 10 with
  | false =>
    have hr : okF f = false := by simp [okF, h1]
    rw [hr]; clear hr
    go_enter Tryd.func99, Tryd.ntmps99
    go_wp2_with (go_at_call 53; refine (l00In_any _ _ _ _).mono ?_; rintro e w' ⟨rfl, rfl⟩)
    go_ret
    exact ⟨rfl, rfl⟩
  | true =>
    cases h2 : inB f.H 1 10 with
    | false =>
      have hr : okF f = false := by simp [okF, h2]
      rw [hr]; clear hr
      go_enter Tryd.func99, Tryd.ntmps99
      go_wp2_with (go_at_call 53; refine (l00In_any _ _ _ _).mono ?_; rintro e w' ⟨rfl, rfl⟩)
      go_ret
      exact ⟨rfl, rfl⟩
    | true =>
      have hr : okF f = allTo 100 (cellOk f) := by simp [okF, h1, h2]
      rw [hr]; clear hr
      go_enter Tryd.func99, Tryd.ntmps99
      go_wp2_with (go_at_call 53; refine (l00In_any _ _ _ _).mono ?_; rintro e w' ⟨rfl, rfl⟩)
      clear h1 h2 c0 c1
      go_loop [3] (fun i => ∃ k : Nat, k ≤ 100 ∧ i = .int .i64 k ∧ (∀ i, i < k → cellOk f i = true)) (fun i => 100 - (intOf i).toNat)
      case atStart => exact ⟨0, by omega, rfl, fun i hi => by omega⟩
      case round =>
        obtain ⟨k, hk, rfl, hall0⟩ := hrel
        have hall : Hid (∀ i, i < k → cellOk f i = true) := hall0
        clear hall0
        by_cases hlt : k < 100
        · have cK := B.cell (fcells_K f k hlt)
          have cS := B.cell (fcells_S f k hlt)
          obtain ⟨hK1, hK2⟩ := hf.K k hlt
          obtain ⟨hS1, hS2⟩ := hf.S k hlt
          cases q1 : inB (f.K k) 0 3 with
          | false =>
            have hfin : Hid (allTo 100 (cellOk f) = false) := allTo_false hlt (by simp [cellOk, q1])
            go_wp2_with (first | (go_at_call 125; refine (l01Kind_any _ _).mono ?_; rintro e w' ⟨rfl, rfl⟩) | (go_at_call 126; refine (l01Seeds_any _ _).mono ?_; rintro e w' ⟨rfl, rfl⟩) | (go_at_call 43; refine (l01Is_any f _ b _ hf.W hf.H B).mono ?_; rintro e w' ⟨rfl, rfl⟩))
            go_ret
            exact ⟨by rw [hfin.out]; rfl, rfl⟩
          | true =>
            cases q2 : inB (f.S k) 0 1000 with
            | false =>
              have hfin : Hid (allTo 100 (cellOk f) = false) := allTo_false hlt (by simp [cellOk, q2])
              go_wp2_with (first | (go_at_call 125; refine (l01Kind_any _ _).mono ?_; rintro e w' ⟨rfl, rfl⟩) | (go_at_call 126; refine (l01Seeds_any _ _).mono ?_; rintro e w' ⟨rfl, rfl⟩) | (go_at_call 43; refine (l01Is_any f _ b _ hf.W hf.H B).mono ?_; rintro e w' ⟨rfl, rfl⟩))
              go_ret
              exact ⟨by rw [hfin.out]; rfl, rfl⟩
            | true =>
              cases q3 : (f.K k != 0) with
              | true =>
                cases q4 : (f.S k != 0) with
                | true =>
                  have hfin : Hid (allTo 100 (cellOk f) = false) := allTo_false hlt (by simp [cellOk]; simp at q3 q4; simp [q3, q4])
                  go_wp2_with (first | (go_at_call 125; refine (l01Kind_any _ _).mono ?_; rintro e w' ⟨rfl, rfl⟩) | (go_at_call 126; refine (l01Seeds_any _ _).mono ?_; rintro e w' ⟨rfl, rfl⟩) | (go_at_call 43; refine (l01Is_any f _ b _ hf.W hf.H B).mono ?_; rintro e w' ⟨rfl, rfl⟩))
                  go_ret
                  exact ⟨by rw [hfin.out]; rfl, rfl⟩
                | false =>
                  cases q5 : isCell f k with
                  | true =>
                    have hc : Hid (cellOk f k = true) := by have q4' : (f.S k == 0) = true := (by simpa using q4); unfold Hid cellOk; rw [q1, q2, q4', q5]; simp
                    go_wp2_with (first | (go_at_call 125; refine (l01Kind_any _ _).mono ?_; rintro e w' ⟨rfl, rfl⟩) | (go_at_call 126; refine (l01Seeds_any _ _).mono ?_; rintro e w' ⟨rfl, rfl⟩) | (go_at_call 43; refine (l01Is_any f _ b _ hf.W hf.H B).mono ?_; rintro e w' ⟨rfl, rfl⟩))
                    go_round
                    case rel => exact ⟨k + 1, by omega, by go_num, upto_succ hall.out hc.out⟩
                    case measure => simp [intOf]; omega
                  | false =>
                    have hfin : Hid (allTo 100 (cellOk f) = false) := allTo_false hlt (by simp [cellOk, q5]; simp at q3; simp [q3])
                    go_wp2_with (first | (go_at_call 125; refine (l01Kind_any _ _).mono ?_; rintro e w' ⟨rfl, rfl⟩) | (go_at_call 126; refine (l01Seeds_any _ _).mono ?_; rintro e w' ⟨rfl, rfl⟩) | (go_at_call 43; refine (l01Is_any f _ b _ hf.W hf.H B).mono ?_; rintro e w' ⟨rfl, rfl⟩))
                    go_ret
                    exact ⟨by rw [hfin.out]; rfl, rfl⟩
              | false =>
                cases q5 : isCell f k with
                | true =>
                  have hc : Hid (cellOk f k = true) := by have q3' : (f.K k == 0) = true := (by simpa using q3); unfold Hid cellOk; rw [q1, q2, q3', q5]; simp
                  go_wp2_with (first | (go_at_call 125; refine (l01Kind_any _ _).mono ?_; rintro e w' ⟨rfl, rfl⟩) | (go_at_call 126; refine (l01Seeds_any _ _).mono ?_; rintro e w' ⟨rfl, rfl⟩) | (go_at_call 43; refine (l01Is_any f _ b _ hf.W hf.H B).mono ?_; rintro e w' ⟨rfl, rfl⟩))
                  go_round
                  case rel => exact ⟨k + 1, by omega, by go_num, upto_succ hall.out hc.out⟩
                  case measure => simp [intOf]; omega
                | false =>
                  cases q4 : (f.S k != 0) with
                  | true =>
                    have hfin : Hid (allTo 100 (cellOk f) = false) := allTo_false hlt (by simp [cellOk, q5]; simp at q4; simp [q4])
                    go_wp2_with (first | (go_at_call 125; refine (l01Kind_any _ _).mono ?_; rintro e w' ⟨rfl, rfl⟩) | (go_at_call 126; refine (l01Seeds_any _ _).mono ?_; rintro e w' ⟨rfl, rfl⟩) | (go_at_call 43; refine (l01Is_any f _ b _ hf.W hf.H B).mono ?_; rintro e w' ⟨rfl, rfl⟩))
                    go_ret
                    exact ⟨by rw [hfin.out]; rfl, rfl⟩
                  | false =>
                    have hc : Hid (cellOk f k = true) := by have q3' : (f.K k == 0) = true := (by simpa using q3); have q4' : (f.S k == 0) = true := (by simpa using q4); unfold Hid cellOk; rw [q1, q2, q3', q4']; simp
                    go_wp2_with (first | (go_at_call 125; refine (l01Kind_any _ _).mono ?_; rintro e w' ⟨rfl, rfl⟩) | (go_at_call 126; refine (l01Seeds_any _ _).mono ?_; rintro e w' ⟨rfl, rfl⟩) | (go_at_call 43; refine (l01Is_any f _ b _ hf.W hf.H B).mono ?_; rintro e w' ⟨rfl, rfl⟩))
                    go_round
                    case rel => exact ⟨k + 1, by omega, by go_num, upto_succ hall.out hc.out⟩
                    case measure => simp [intOf]; omega
        · have hge : 100 ≤ k := by omega
          have hfin : Hid (allTo 100 (cellOk f) = true) := allTo_iff.2 (fun i hi => hall.out i (by omega))
          go_wp2_with fail
          go_ret
          exact ⟨by rw [hfin.out]; rfl, rfl⟩

/-- The code of a field, a cell, and whether another number is as told. -/
def asked (f : Fd) (c : Int) (fine : Bool) : Int := if okF f = false then 1 else if isCell f c = false ∨ fine = false then 2 else 0
set_option maxRecDepth 100000 in
theorem l01Asked_any (f : Fd) (hf : f.Wf) (c : Int) (fine : Bool) (b : Nat) (w : World) (B : Blk w b (fcells f) 32) :
    Calls Tryd.prog 65 #[.pointer (some ⟨b, 0, none⟩), .int .i64 c, .bool fine] w fun e w' => e = .returned (.int .i64 (asked f c fine)) ∧ w = w' := by
  unfold asked
  cases h1 : okF f <;> cases h2 : isCell f c <;> cases fine <;>
    (go_enter Tryd.func65, Tryd.ntmps65
     go_wp2_with (first | (go_at_call 99; refine (l01Ok_any f hf b _ B).mono ?_; rintro e w' ⟨rfl, rfl⟩) | (go_at_call 43; refine (l01Is_any f _ b _ hf.W hf.H B).mono ?_; rintro e w' ⟨rfl, rfl⟩))
     go_ret
     exact ⟨by simp, rfl⟩)
end Go.Proofs.YtpplakfmdjajiaaDoor
