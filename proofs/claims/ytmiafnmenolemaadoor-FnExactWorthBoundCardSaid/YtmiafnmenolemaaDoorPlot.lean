/-
  Plots: what is valid, what a plot is worth; the model's, the program's.
-/
import Derived.Test.YtmiafnmenolemaaDoorPlt
import Derived.Test.YtmiafnmenolemaaDoorSto0
import Derived.Test.YtmiafnmenolemaaDoorSpec1
import Derived.Test.YtmiafnmenolemaaDoorImpl1
import Derived.Test.YtmiafnmenolemaaDoorRegM
namespace Go.Proofs.YtmiafnmenolemaaDoor
open Go Go.RowKit

/-- Each number of a plot fits its kind. -/
structure WfPl (a : Nat → Int) : Prop where
  b0 : -32768 ≤ a 0 ∧ a 0 ≤ 32767
  b1 : -32768 ≤ a 1 ∧ a 1 ≤ 32767
  b2 : -32768 ≤ a 2 ∧ a 2 ≤ 32767
  b3 : -32768 ≤ a 3 ∧ a 3 ≤ 32767
abbrev cPlot (a : Nat → Int) : Array Value := #[.int .i16 (a 0), .int .i16 (a 1), .int .i16 (a 2), .int .i16 (a 3)]
/-- A plot as told. -/
def plotOk (a : Nat → Int) : Bool := inB (a 0) 0 1000 && inB (a 3) 0 1000 && inB (a 1) 0 20 && inB (a 2) 0 20
theorem plotOk_iff {a : Nat → Int} : plotOk a = true ↔ (0 ≤ a 0 ∧ a 0 ≤ 1000) ∧ (0 ≤ a 3 ∧ a 3 ≤ 1000) ∧ (0 ≤ a 1 ∧ a 1 ≤ 20) ∧ (0 ≤ a 2 ∧ a 2 ≤ 20) := by
  simp only [plotOk, Bool.and_eq_true, inB_iff]
  constructor
  · rintro ⟨⟨⟨h1, h2⟩, h3⟩, h4⟩; exact ⟨h1, h2, h3, h4⟩
  · rintro ⟨h1, h2, h3, h4⟩; exact ⟨⟨⟨h1, h2⟩, h3⟩, h4⟩
/-- The worth of a plot on a day. -/
def worthA (a : Nat → Int) (d : Int) : Int := if inB (d - a 1) 0 (a 2) then max 0 (a 0 - a 3 * (d - a 1)) else 0
theorem worthA_in {a : Nat → Int} (h : plotOk a = true) (d : Int) : 0 ≤ worthA a d ∧ worthA a d ≤ a 0 := by
  obtain ⟨h0, h3, h1, h2⟩ := plotOk_iff.1 h
  unfold worthA
  split
  · next he =>
    have := inB_iff.1 he
    have h4 : 0 ≤ a 3 * (d - a 1) := Int.mul_nonneg h3.1 this.1
    omega
  · omega
theorem worthA_neg {a : Nat → Int} (h : plotOk a = true) {d : Int} (hd : d < 0) : worthA a d = 0 := by
  obtain ⟨h0, h3, h1, h2⟩ := plotOk_iff.1 h
  unfold worthA
  rw [inB_false (.inl (by omega))]; rfl
theorem prod_in {x y : Int} (hx : 0 ≤ x ∧ x ≤ 1000) (hy : 0 ≤ y ∧ y ≤ 20) : 0 ≤ x * y ∧ x * y ≤ 20000 := by
  have h1 : 0 ≤ x * y := Int.mul_nonneg hx.1 hy.1
  have h2 : x * y ≤ x * 20 := Int.mul_le_mul_of_nonneg_left hy.2 hx.1
  omega
set_option maxHeartbeats 1000000 in
theorem l07Plot_any (a : Nat → Int) (ha : WfPl a) (w : World) : Calls Tryd.prog 51 #[vPlot a] w fun e w' => e = .returned (.bool (plotOk a)) ∧ Below w.heap.size w w' := by
  obtain ⟨⟨x1, x2⟩, ⟨y1, y2⟩, ⟨u1, u2⟩, ⟨v1, v2⟩⟩ := ha
  unfold plotOk
  obtain ⟨q1, h1⟩ : ∃ x, inB (a 0) 0 1000 = x := ⟨_, rfl⟩
  obtain ⟨q2, h2⟩ : ∃ x, inB (a 3) 0 1000 = x := ⟨_, rfl⟩
  obtain ⟨q3, h3⟩ : ∃ x, inB (a 1) 0 20 = x := ⟨_, rfl⟩
  obtain ⟨q4, h4⟩ : ∃ x, inB (a 2) 0 20 = x := ⟨_, rfl⟩
  rw [h1, h2, h3, h4]
  have H1 := Lib.hid h1
  have H2 := Lib.hid h2
  have H3 := Lib.hid h3
  have H4 := Lib.hid h4
  clear h1 h2 h3 h4
  cases q1 <;> cases q2 <;> cases q3
  all_goals
    go_enter Tryd.func51, Tryd.ntmps51
    go_upto_region 1 with (fail)
    obtain ⟨W, hW, M⟩ := open1 w (cPlot a) 48
    rw [hW]; clear hW
    have c0 : W.cell? ⟨w.heap.size, 0, none⟩ = some (.int .i16 (a 0)) := (M.at 0 rfl).cell (i := 0) rfl
    have c1 : W.cell? ⟨w.heap.size, 1, none⟩ = some (.int .i16 (a 1)) := (M.at 0 rfl).cell (i := 1) rfl
    have c2 : W.cell? ⟨w.heap.size, 2, none⟩ = some (.int .i16 (a 2)) := (M.at 0 rfl).cell (i := 2) rfl
    have c3 : W.cell? ⟨w.heap.size, 3, none⟩ = some (.int .i16 (a 3)) := (M.at 0 rfl).cell (i := 3) rfl
    go_wp2_with (first
      | (go_at_call 60; refine (l01Seeds_any _ _).mono ?_; rintro e w' ⟨rfl, rfl⟩; first | rw [H1.out] | rw [H2.out])
      | (go_at_call 38; refine (l00In_any _ _ _ _).mono ?_; rintro e w' ⟨rfl, rfl⟩; first | rw [H3.out] | rw [H4.out]))
    go_ret
    exact ⟨rfl, M.below⟩
theorem isRipening_any (a b c : Int) (w : World) : Calls Tryd.prog 62 #[.int .i64 a, .int .i64 b, .int .i64 c] w fun e w' => e = .returned (.bool (inB a 0 20 && inB b 0 20 && inB c 0 1000)) ∧ w = w' := by
  obtain ⟨q1, h1⟩ : ∃ x, inB a 0 20 = x := ⟨_, rfl⟩
  obtain ⟨q2, h2⟩ : ∃ x, inB b 0 20 = x := ⟨_, rfl⟩
  obtain ⟨q3, h3⟩ : ∃ x, inB c 0 1000 = x := ⟨_, rfl⟩
  rw [h1, h2, h3]
  have H1 := Lib.hid h1
  have H2 := Lib.hid h2
  have H3 := Lib.hid h3
  clear h1 h2 h3
  cases q1 <;> cases q2
  all_goals
    go_enter Tryd.func62, Tryd.ntmps62
    go_wp2_with (first
      | (go_at_call 66; refine (isWait7 _ _).mono ?_; rintro e w' ⟨rfl, rfl⟩; first | rw [H1.out] | rw [H2.out])
      | (go_at_call 61; refine (isSeeds_any _ _).mono ?_; rintro e w' ⟨rfl, rfl⟩; rw [H3.out]))
    go_ret
    exact ⟨rfl, rfl⟩
theorem plotOk_rip (a : Nat → Int) : plotOk a = (inB (a 0) 0 1000 && (inB (a 1) 0 20 && inB (a 2) 0 20 && inB (a 3) 0 1000)) := by
  unfold plotOk
  cases inB (a 0) 0 1000 <;> cases inB (a 1) 0 20 <;> cases inB (a 2) 0 20 <;> cases inB (a 3) 0 1000 <;> rfl
set_option maxHeartbeats 1000000 in
theorem isValidP_any (a : Nat → Int) (ha : WfPl a) (w : World) : Calls Tryd.prog 52 #[vPlot a] w fun e w' => e = .returned (.bool (plotOk a)) ∧ Below w.heap.size w w' := by
  obtain ⟨⟨x1, x2⟩, ⟨y1, y2⟩, ⟨u1, u2⟩, ⟨v1, v2⟩⟩ := ha
  rw [plotOk_rip]
  obtain ⟨q1, h1⟩ : ∃ x, inB (a 0) 0 1000 = x := ⟨_, rfl⟩
  obtain ⟨q2, h2⟩ : ∃ x, (inB (a 1) 0 20 && inB (a 2) 0 20 && inB (a 3) 0 1000) = x := ⟨_, rfl⟩
  rw [h1, h2]
  have H1 := Lib.hid h1
  have H2 := Lib.hid h2
  clear h1 h2
  cases q1
  all_goals
    go_enter Tryd.func52, Tryd.ntmps52
    go_upto_region 1 with (fail)
    obtain ⟨W, hW, M⟩ := open1 w (cPlot a) 48
    rw [hW]; clear hW
    have c0 : W.cell? ⟨w.heap.size, 0, none⟩ = some (.int .i16 (a 0)) := (M.at 0 rfl).cell (i := 0) rfl
    have c1 : W.cell? ⟨w.heap.size, 1, none⟩ = some (.int .i16 (a 1)) := (M.at 0 rfl).cell (i := 1) rfl
    have c2 : W.cell? ⟨w.heap.size, 2, none⟩ = some (.int .i16 (a 2)) := (M.at 0 rfl).cell (i := 2) rfl
    have c3 : W.cell? ⟨w.heap.size, 3, none⟩ = some (.int .i16 (a 3)) := (M.at 0 rfl).cell (i := 3) rfl
    go_wp2_with (first
      | (go_at_call 61; refine (isSeeds_any _ _).mono ?_; rintro e w' ⟨rfl, rfl⟩; rw [H1.out])
      | (go_at_call 62; refine (isRipening_any _ _ _ _).mono ?_; rintro e w' ⟨rfl, rfl⟩; rw [H2.out]))
    go_ret
    exact ⟨rfl, M.below⟩
set_option maxHeartbeats 1000000 in
theorem l07Worth_any (a : Nat → Int) (ha : plotOk a = true) (d : Int) (hd : -1 ≤ d ∧ d ≤ 1000) (w : World) : Calls Tryd.prog 39 #[vPlot a, .int .i64 d] w fun e w' => e = .returned (.int .i64 (worthA a d)) ∧ Below w.heap.size w w' := by
  obtain ⟨h0, h3, h1, h2⟩ := plotOk_iff.1 ha
  obtain ⟨q, hq⟩ : ∃ x, inB (d - a 1) 0 (a 2) = x := ⟨_, rfl⟩
  have HQ := Lib.hid hq
  have HW := Lib.hid (show worthA a d = if q = true then max 0 (a 0 - a 3 * (d - a 1)) else 0 by unfold worthA; rw [hq])
  have H3 := Lib.hid h3
  have H2 := Lib.hid h2
  obtain ⟨h31, h32⟩ := h3
  obtain ⟨h21, h22⟩ := h2
  obtain ⟨h11, h12⟩ := h1
  obtain ⟨h01, h02⟩ := h0
  obtain ⟨hd1, hd2⟩ := hd
  clear hq ha
  rw [HW.out]
  cases q with
  | false =>
    go_enter Tryd.func39, Tryd.ntmps39
    go_upto_region 1 with (fail)
    obtain ⟨W, hW, M⟩ := open1 w (cPlot a) 48
    rw [hW]; clear hW
    have c1 : W.cell? ⟨w.heap.size, 1, none⟩ = some (.int .i16 (a 1)) := (M.at 0 rfl).cell (i := 1) rfl
    have c2 : W.cell? ⟨w.heap.size, 2, none⟩ = some (.int .i16 (a 2)) := (M.at 0 rfl).cell (i := 2) rfl
    go_wp2_with (go_at_call 38; refine (l00In_any _ _ _ _).mono ?_; rintro e w' ⟨rfl, rfl⟩; rw [HQ.out])
    go_ret
    exact ⟨rfl, M.below⟩
  | true =>
    have hin := inB_iff.1 HQ.out
    obtain ⟨p1, p2⟩ := prod_in H3.out (show 0 ≤ d - a 1 ∧ d - a 1 ≤ 20 by omega)
    go_enter Tryd.func39, Tryd.ntmps39
    go_upto_region 1 with (fail)
    obtain ⟨W, hW, M⟩ := open1 w (cPlot a) 48
    rw [hW]; clear hW
    have c0 : W.cell? ⟨w.heap.size, 0, none⟩ = some (.int .i16 (a 0)) := (M.at 0 rfl).cell (i := 0) rfl
    have c1 : W.cell? ⟨w.heap.size, 1, none⟩ = some (.int .i16 (a 1)) := (M.at 0 rfl).cell (i := 1) rfl
    have c2 : W.cell? ⟨w.heap.size, 2, none⟩ = some (.int .i16 (a 2)) := (M.at 0 rfl).cell (i := 2) rfl
    have c3 : W.cell? ⟨w.heap.size, 3, none⟩ = some (.int .i16 (a 3)) := (M.at 0 rfl).cell (i := 3) rfl
    go_wp2_with (first
      | (go_at_call 38; refine (l00In_any _ _ _ _).mono ?_; rintro e w' ⟨rfl, rfl⟩; rw [HQ.out])
      | (go_at_call 53; refine (l00Max7 _ _ _).mono ?_; rintro e w' ⟨rfl, rfl⟩))
    go_ret
    exact ⟨rfl, M.below⟩
set_option maxHeartbeats 1000000 in
theorem worthOn_any (a : Nat → Int) (ha : plotOk a = true) (d : Int) (hd : -1 ≤ d ∧ d ≤ 1000) (w : World) : Calls Tryd.prog 42 #[vPlot a, .int .i64 d] w fun e w' => e = .returned (.int .i64 (worthA a d)) ∧ Below w.heap.size w w' := by
  obtain ⟨h0, h3, h1, h2⟩ := plotOk_iff.1 ha
  have H3 := Lib.hid h3
  obtain ⟨h31, h32⟩ := h3
  obtain ⟨h21, h22⟩ := h2
  obtain ⟨h11, h12⟩ := h1
  obtain ⟨h01, h02⟩ := h0
  obtain ⟨hd1, hd2⟩ := hd
  by_cases q1 : d - a 1 < 0
  · have HW := Lib.hid (show worthA a d = 0 by unfold worthA; rw [inB_false (.inl q1)]; rfl)
    rw [HW.out]
    clear ha
    go_enter Tryd.func42, Tryd.ntmps42
    go_upto_region 1 with (fail)
    obtain ⟨W, hW, M⟩ := open1 w (cPlot a) 48
    rw [hW]; clear hW
    have c1 : W.cell? ⟨w.heap.size, 1, none⟩ = some (.int .i16 (a 1)) := (M.at 0 rfl).cell (i := 1) rfl
    have c2 : W.cell? ⟨w.heap.size, 2, none⟩ = some (.int .i16 (a 2)) := (M.at 0 rfl).cell (i := 2) rfl
    go_wp2_with fail
    go_ret
    exact ⟨rfl, M.below⟩
  by_cases q2 : a 2 < d - a 1
  · have HW := Lib.hid (show worthA a d = 0 by unfold worthA; rw [inB_false (.inr q2)]; rfl)
    rw [HW.out]
    clear ha
    go_enter Tryd.func42, Tryd.ntmps42
    go_upto_region 1 with (fail)
    obtain ⟨W, hW, M⟩ := open1 w (cPlot a) 48
    rw [hW]; clear hW
    have c1 : W.cell? ⟨w.heap.size, 1, none⟩ = some (.int .i16 (a 1)) := (M.at 0 rfl).cell (i := 1) rfl
    have c2 : W.cell? ⟨w.heap.size, 2, none⟩ = some (.int .i16 (a 2)) := (M.at 0 rfl).cell (i := 2) rfl
    go_wp2_with fail
    go_ret
    exact ⟨rfl, M.below⟩
  have HW := Lib.hid (show worthA a d = max 0 (a 0 - a 3 * (d - a 1)) by unfold worthA; rw [inB_iff.2 (by omega)]; rfl)
  rw [HW.out]
  obtain ⟨p1, p2⟩ := prod_in H3.out (show 0 ≤ d - a 1 ∧ d - a 1 ≤ 20 by omega)
  have hmx : ∀ (ts : Array TypeId) (t : TypeId) (W : World), (Builtin.max_ ts t #[.int .i64 0, .int .i64 (a 0 - a 3 * (d - a 1))]).run Tryd.prog W = .ok (.int .i64 (max 0 (a 0 - a 3 * (d - a 1)))) W := fun ts t W => by
    have e : (if a 3 * (d - a 1) < a 0 then a 0 - a 3 * (d - a 1) else 0) = max 0 (a 0 - a 3 * (d - a 1)) := by omega
    simp [Builtin.max_, Builtin.max2, e]
  clear ha
  go_enter Tryd.func42, Tryd.ntmps42
  go_upto_region 1 with (fail)
  obtain ⟨W, hW, M⟩ := open1 w (cPlot a) 48
  rw [hW]; clear hW
  have c0 : W.cell? ⟨w.heap.size, 0, none⟩ = some (.int .i16 (a 0)) := (M.at 0 rfl).cell (i := 0) rfl
  have c1 : W.cell? ⟨w.heap.size, 1, none⟩ = some (.int .i16 (a 1)) := (M.at 0 rfl).cell (i := 1) rfl
  have c2 : W.cell? ⟨w.heap.size, 2, none⟩ = some (.int .i16 (a 2)) := (M.at 0 rfl).cell (i := 2) rfl
  have c3 : W.cell? ⟨w.heap.size, 3, none⟩ = some (.int .i16 (a 3)) := (M.at 0 rfl).cell (i := 3) rfl
  go_wp2_with fail
  go_ret
  exact ⟨rfl, M.below⟩
end Go.Proofs.YtmiafnmenolemaaDoor
