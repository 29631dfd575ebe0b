/-
  Lists of plots: whether they are valid; the model's, the program's.
-/
import Derived.Test.YtmiafnmenolemaaDoorPlot
import Derived.Test.YtmiafnmenolemaaDoorPltIn
import Derived.Test.YtmiafnmenolemaaDoorErr
namespace Go.Proofs.YtmiafnmenolemaaDoor
open Go Go.RowKit

def plotsOk (n : Nat) (F : Nat → Nat → Int) : Bool := allTo n (fun i => plotOk (F i)) && decide (n ≤ 6)
theorem plotsOk_iff {n : Nat} {F : Nat → Nat → Int} : plotsOk n F = true ↔ (∀ i, i < n → plotOk (F i) = true) ∧ n ≤ 6 := by
  simp only [plotsOk, Bool.and_eq_true, allTo_iff, decide_eq_true_eq]
theorem plotsOk_bad {n k : Nat} {F : Nat → Nat → Int} (hk : k < n) (h : plotOk (F k) = false) : plotsOk n F = false := by
  cases e : plotsOk n F with
  | false => rfl
  | true => have := (plotsOk_iff.1 e).1 k hk; rw [h] at this; cases this
theorem wfp_row {n : Nat} {F : Nat → Nat → Int} (h : WfS ksPlot n F) {i : Nat} (hi : i < n) : WfPl (F i) :=
  ⟨bounds_i16 (h i hi 0 (by decide)), bounds_i16 (h i hi 1 (by decide)), bounds_i16 (h i hi 2 (by decide)), bounds_i16 (h i hi 3 (by decide))⟩
structure PltAt (w : World) (b o : Nat) (a : Nat → Int) : Prop where
  c0 : w.cell? ⟨b, o, none⟩ = some (.int .i16 (a 0))
  c1 : w.cell? ⟨b, o + 1, none⟩ = some (.int .i16 (a 1))
  c2 : w.cell? ⟨b, o + 2, none⟩ = some (.int .i16 (a 2))
  c3 : w.cell? ⟨b, o + 3, none⟩ = some (.int .i16 (a 3))
theorem pltAt_of {w : World} {b o : Nat} {F : Nat → Nat → Int} {i : Nat} (h : w.rangeAt b o (srow ksPlot F i).toList) : PltAt w b o (F i) :=
  ⟨h 0 _ rfl, h 1 _ rfl, h 2 _ rfl, h 3 _ rfl⟩
set_option maxHeartbeats 1000000 in
theorem l07Ok_any (n : Nat) (hn : n ≤ 2 ^ 40) (F : Nat → Nat → Int) (hF : ∀ i, i < n → WfPl (F i)) (b c : Nat) (w : World) (I : InS w b 0 n ksPlot F) :
    Calls Tryd.prog 32 #[.slice (some ⟨b, 0, none⟩) n c] w fun e w' => e = .returned (.bool (plotsOk n F)) ∧ Below w.heap.size w w' := by
  have HI := Lib.hid I
  have HF := Lib.hid hF
  clear I hF
  go_enter Tryd.func32, Tryd.ntmps32
  go_wp2_with fail
  go_loopw [3] (fun i wr => ∃ k : Nat, k ≤ n ∧ i = .int .i64 k ∧ Hid (Below w.heap.size w wr) ∧ Hid (∀ i, i < k → plotOk (F i) = true)) (fun i _ => n - (intOf i).toNat)
  case atStart => exact ⟨0, by omega, rfl, Lib.hid (Below.refl _ _), Lib.hid (fun i hi => by omega)⟩
  case round =>
    obtain ⟨k, hk, rfl, hb, hall⟩ := hrel
    by_cases hlt : k < n
    · have hp := Lib.hid (HF.out k hlt)
      obtain ⟨c0, c1, c2, c3⟩ : PltAt wr b (k * 4) (F k) := pltAt_of (by have h := HI.out.later hb.out k hlt; rw [Nat.zero_add] at h; exact h)
      obtain ⟨q, hq⟩ : ∃ q, plotOk (F k) = q := ⟨_, rfl⟩
      have HQ := Lib.hid hq
      clear hq
      cases q with
      | false =>
        have hr : Hid (plotsOk n F = false) := Lib.hid (plotsOk_bad hlt HQ.out)
        go_wp2_with (go_at_call 51; refine (l07Plot_any (F k) hp.out _).mono ?_; rintro e w2 ⟨rfl, hb2⟩; rw [HQ.out]; have hb3 := Lib.hid (hb.out.trans (hb2.mono hb.out.size)); clear hb2)
        go_ret
        exact ⟨by rw [hr.out]; rfl, hb3.out⟩
      | true =>
        go_wp2_with (go_at_call 51; refine (l07Plot_any (F k) hp.out _).mono ?_; rintro e w2 ⟨rfl, hb2⟩; rw [HQ.out]; have hb3 := Lib.hid (hb.out.trans (hb2.mono hb.out.size)); clear hb2)
        go_roundw
        case rel => exact ⟨k + 1, by omega, by go_num, hb3, Lib.hid (upto_succ hall.out HQ.out)⟩
        case measure => simp [intOf]; omega
    · obtain rfl : k = n := by omega
      have hr : Hid (plotsOk k F = decide ((k : Int) ≤ 6)) := Lib.hid (by
        unfold plotsOk; rw [allTo_iff.2 hall.out, Bool.true_and]
        apply decide_eq_decide.2; omega)
      go_wp2_with fail
      go_ret
      exact ⟨by rw [hr.out]; rfl, hb.out⟩
theorem specValidPlots (n : Nat) (hn : n ≤ 2 ^ 40) (F : Nat → Nat → Int) (hF : ∀ i, i < n → WfPl (F i)) (b c : Nat) (w : World) (I : InS w b 0 n ksPlot F) :
    Calls Tryd.prog 11 #[.slice (some ⟨b, 0, none⟩) n c] w fun e w' => e = .returned (.bool (plotsOk n F)) ∧ Below w.heap.size w w' := by
  go_enter Tryd.func11, Tryd.ntmps11
  go_wp2_with (go_at_call 32; refine (l07Ok_any n hn F hF b c _ I).mono ?_; rintro e w2 ⟨rfl, hb2⟩)
  go_ret
  exact ⟨rfl, hb2⟩
/-- The code of plots, and of what else is asked. -/
def plotsAsk (n : Nat) (F : Nat → Nat → Int) (q : Bool) : Int := if plotsOk n F then (if q then 0 else 2) else 1
theorem l07Asked_any (n : Nat) (hn : n ≤ 2 ^ 40) (F : Nat → Nat → Int) (hF : ∀ i, i < n → WfPl (F i)) (b c : Nat) (q : Bool) (w : World) (I : InS w b 0 n ksPlot F) :
    Calls Tryd.prog 36 #[.slice (some ⟨b, 0, none⟩) n c, .bool q] w fun e w' => e = .returned (.int .i64 (plotsAsk n F q)) ∧ Below w.heap.size w w' := by
  unfold plotsAsk
  obtain ⟨p, hp⟩ : ∃ p, plotsOk n F = p := ⟨_, rfl⟩
  have HP := Lib.hid hp
  rw [hp]
  clear hp
  cases p <;> cases q
  all_goals
    go_enter Tryd.func36, Tryd.ntmps36
    go_wp2_with (go_at_call 32; refine (l07Ok_any n hn F hF b c _ I).mono ?_; rintro e w2 ⟨rfl, hb2⟩; rw [HP.out])
    go_ret
    exact ⟨rfl, hb2⟩
theorem l07Index_any (p : Option Addr) (n c : Nat) (hn : n ≤ 2 ^ 40) (x : Int) (w : World) : Calls Tryd.prog 37 #[.slice p n c, .int .i64 x] w fun e w' => e = .returned (.bool (inB x 0 ((n : Int) - 1))) ∧ w = w' := by
  go_enter Tryd.func37, Tryd.ntmps37
  go_wp2_with (go_at_call 38; refine (l00In_any _ _ _ _).mono ?_; rintro e w' ⟨rfl, rfl⟩)
  go_ret
  exact ⟨rfl, rfl⟩
theorem l07Days_any (x : Int) (w : World) : Calls Tryd.prog 43 #[.int .i64 x] w fun e w' => e = .returned (.bool (inB x 1 20)) ∧ w = w' := by
  go_enter Tryd.func43, Tryd.ntmps43
  go_wp2_with (go_at_call 38; refine (l00In_any _ _ _ _).mono ?_; rintro e w' ⟨rfl, rfl⟩)
  go_ret
  exact ⟨rfl, rfl⟩
theorem l07Hands_any (x : Int) (w : World) : Calls Tryd.prog 58 #[.int .i64 x] w fun e w' => e = .returned (.bool (inB x 1 3)) ∧ w = w' := by
  go_enter Tryd.func58, Tryd.ntmps58
  go_wp2_with (go_at_call 38; refine (l00In_any _ _ _ _).mono ?_; rintro e w' ⟨rfl, rfl⟩)
  go_ret
  exact ⟨rfl, rfl⟩
theorem isDays_any (n : Int) (w : World) : Calls Tryd.prog 45 #[.int .i64 n] w fun e w' => e = .returned (.bool (inB n 1 20)) ∧ w = w' := by
  by_cases h1 : 1 ≤ n
  · have e : inB n 1 20 = decide (n ≤ 20) := by simp [inB, h1]
    rw [e]
    go_enter Tryd.func45, Tryd.ntmps45
    go_wp2_with fail
    go_ret
    exact ⟨rfl, rfl⟩
  · rw [inB_false (.inl (by omega))]
    go_enter Tryd.func45, Tryd.ntmps45
    go_wp2_with fail
    go_ret
    exact ⟨rfl, rfl⟩
theorem isHands_any (n : Int) (w : World) : Calls Tryd.prog 59 #[.int .i64 n] w fun e w' => e = .returned (.bool (inB n 1 3)) ∧ w = w' := by
  by_cases h1 : 1 ≤ n
  · have e : inB n 1 3 = decide (n ≤ 3) := by simp [inB, h1]
    rw [e]
    go_enter Tryd.func59, Tryd.ntmps59
    go_wp2_with fail
    go_ret
    exact ⟨rfl, rfl⟩
  · rw [inB_false (.inl (by omega))]
    go_enter Tryd.func59, Tryd.ntmps59
    go_wp2_with fail
    go_ret
    exact ⟨rfl, rfl⟩
/-- The program's error of plots. The first sentinel is all that is asked. -/
def plErr (A : Nat → Addr) (b : Bool) : Value := if b then .nilIface else errVal (A 1)
set_option maxHeartbeats 2000000 in
theorem checkPlots_any (n : Nat) (hn : n ≤ 2 ^ 40) (F : Nat → Nat → Int) (hF : ∀ i, i < n → WfPl (F i)) (b c : Nat) (A : Nat → Addr) (w : World) (I : InS w b 0 n ksPlot F) (hv1 : w.cell? ⟨1, 0, none⟩ = some (errVal (A 1))) :
    Calls Tryd.prog 34 #[.slice (some ⟨b, 0, none⟩) n c] w fun e w' => e = .returned (plErr A (plotsOk n F)) ∧ Below w.heap.size w w' := by
  have HI := Lib.hid I
  have HF := Lib.hid hF
  have HV := Lib.hid hv1
  clear I hF
  by_cases h6 : 6 < n
  · have hr : plotsOk n F = false := by unfold plotsOk; rw [decide_eq_false (by omega), Bool.and_false]
    rw [hr]
    clear hr
    go_enter Tryd.func34, Tryd.ntmps34
    go_wp2_with fail
    go_ret
    exact ⟨rfl, Below.refl _ _⟩
  · clear hv1
    go_enter Tryd.func34, Tryd.ntmps34
    go_wp2_with fail
    go_loopw [11] (fun i wr => ∃ k : Nat, k ≤ n ∧ i = .int .i64 k ∧ Hid (Below w.heap.size w wr) ∧ Hid (∀ i, i < k → plotOk (F i) = true)) (fun i _ => n - (intOf i).toNat)
    case atStart => exact ⟨0, by omega, rfl, Lib.hid (Below.refl _ _), Lib.hid (fun i hi => by omega)⟩
    case round =>
      obtain ⟨k, hk, rfl, hb, hall⟩ := hrel
      by_cases hlt : k < n
      · have hp := Lib.hid (HF.out k hlt)
        obtain ⟨c0, c1, c2, c3⟩ : PltAt wr b (k * 4) (F k) := pltAt_of (by have h := HI.out.later hb.out k hlt; rw [Nat.zero_add] at h; exact h)
        obtain ⟨q, hq⟩ : ∃ q, plotOk (F k) = q := ⟨_, rfl⟩
        have HQ := Lib.hid hq
        clear hq
        go_upto_region 6 with (fail)
        clear c0 c1 c2 c3
        have hb1 := hb.out.alloc hb.out.size (.cells (cPlot (F k)) 48)
        have hX := Lib.hid (Blk.new wr (cPlot (F k)) 48)
        have hb1 := Lib.hid hb1
        generalize World.alloc _ _ = W1 at hb1 hX ⊢
        cases q with
        | false =>
          have hr : Hid (plotsOk n F = false) := Lib.hid (plotsOk_bad hlt HQ.out)
          have v1 := cell_later HV.out hb1.out
          go_wp2_with (first
            | (refine wpList_load_part rfl 48 _ rfl wr.heap.size 0 rfl (cPlot (F k)) _ hX.out.whole Tryd.underlying48 rfl (by kernel_rfl) ?_)
            | (go_at_call 52; refine (isValidP_any (F k) hp.out _).mono ?_; rintro e w2 ⟨rfl, hb2⟩; rw [HQ.out]; have hb3 := Lib.hid (hb1.out.trans (hb2.mono hb1.out.size)); clear hb2 v1; have v1 := cell_later HV.out hb3.out))
          go_ret
          exact ⟨by rw [hr.out]; rfl, hb3.out⟩
        | true =>
          go_wp2_with (first
            | (refine wpList_load_part rfl 48 _ rfl wr.heap.size 0 rfl (cPlot (F k)) _ hX.out.whole Tryd.underlying48 rfl (by kernel_rfl) ?_)
            | (go_at_call 52; refine (isValidP_any (F k) hp.out _).mono ?_; rintro e w2 ⟨rfl, hb2⟩; rw [HQ.out]; have hb3 := Lib.hid (hb1.out.trans (hb2.mono hb1.out.size)); clear hb2))
          go_roundw
          case rel => exact ⟨k + 1, by omega, by go_num, hb3, Lib.hid (upto_succ hall.out HQ.out)⟩
          case measure => simp [intOf]; omega
      · obtain rfl : k = n := by omega
        have hr : Hid (plotsOk k F = true) := Lib.hid (plotsOk_iff.2 ⟨hall.out, by omega⟩)
        go_wp2_with fail
        go_ret
        exact ⟨by rw [hr.out]; rfl, hb.out⟩
end Go.Proofs.YtmiafnmenolemaaDoor
