/-
  The program's validity of flocks: parts, hasText, fits; the table that it looks up.
-/
import Derived.Test.YtaioflkonpommaaDoorFlkOk
import Derived.Test.YtaioflkonpommaaDoorCoreA
import Derived.Outline
namespace Go.Proofs.YtaioflkonpommaaDoor
open Go Go.RowKit Go.WideShapes Go.ChangeShapes

/-- The table of the greatest numbers, as its variable holds it. -/
structure TabAt (w : World) : Prop where
  t0 : w.cell? ⟨8, 0, none⟩ = some (.int .i64 99)
  t1 : w.cell? ⟨8, 1, none⟩ = some (.int .i64 200)
  t2 : w.cell? ⟨8, 2, none⟩ = some (.int .i64 20)
  t3 : w.cell? ⟨8, 3, none⟩ = some (.int .i64 1000)
  t4 : w.cell? ⟨8, 4, none⟩ = some (.int .i64 200)
  t5 : w.cell? ⟨8, 5, none⟩ = some (.int .i64 2)
theorem cell_still {w w' : World} {a : Addr} {v : Value} (h : w.cell? a = some v) (hb : Below w.heap.size w w') : w'.cell? a = some v := by
  have hlt := World.block_lt_of_cell? _ _ h
  obtain ⟨b, o, s⟩ := a
  have hs : s = none := World.cell?_spot h
  subst hs
  rw [hb.cell hlt]; exact h
theorem TabAt.later {w w' : World} (h : TabAt w) (hb : Below w.heap.size w w') : TabAt w' :=
  ⟨cell_still h.t0 hb, cell_still h.t1 hb, cell_still h.t2 hb, cell_still h.t3 hb, cell_still h.t4 hb, cell_still h.t5 hb⟩
/-- A flock's numbers as whole words. -/
abbrev vParts (a : Nat → Int) : Value := .agg #[.int .i64 (a 0), .int .i64 (a 1), .int .i64 (a 2), .int .i64 (a 3), .int .i64 (a 4), .int .i64 (a 5)]
/-- All six numbers are as told. -/
def textOk (a : Nat → Int) : Bool := inB (a 0) 0 99 && plainOk a

theorem parts_any (a : Nat → Int) (ha : WfR a) (w : World) : Calls Tryd.prog 110 #[vFlock a] w fun e w' => e = .returned (vParts a) ∧ Below w.heap.size w w' := by
  obtain ⟨⟨a01, a02⟩, ⟨a11, a12⟩, ⟨a21, a22⟩, ⟨a31, a32⟩, ⟨a41, a42⟩, ⟨a51, a52⟩⟩ := ha
  go_enter Tryd.func110, Tryd.ntmps110
  go_wp2_with fail
  exact bodyPost_ret (v := vParts a) (by simp [results, Tryd.results110, go_sem]) rfl ⟨rfl, ((Below.refl _ _).alloc (Nat.le_refl _) _).alloc (by simp) _⟩

theorem idx0 (a : Nat → Int) (w : World) : (Instr.index 162 (vParts a) (.int .i64 0)).run Tryd.prog w = .ok (.int .i64 (a 0)) w := by kernel_rfl
theorem idx1 (a : Nat → Int) (w : World) : (Instr.index 162 (vParts a) (.int .i64 1)).run Tryd.prog w = .ok (.int .i64 (a 1)) w := by kernel_rfl
theorem idx2 (a : Nat → Int) (w : World) : (Instr.index 162 (vParts a) (.int .i64 2)).run Tryd.prog w = .ok (.int .i64 (a 2)) w := by kernel_rfl
theorem idx3 (a : Nat → Int) (w : World) : (Instr.index 162 (vParts a) (.int .i64 3)).run Tryd.prog w = .ok (.int .i64 (a 3)) w := by kernel_rfl
theorem idx4 (a : Nat → Int) (w : World) : (Instr.index 162 (vParts a) (.int .i64 4)).run Tryd.prog w = .ok (.int .i64 (a 4)) w := by kernel_rfl
theorem idx5 (a : Nat → Int) (w : World) : (Instr.index 162 (vParts a) (.int .i64 5)).run Tryd.prog w = .ok (.int .i64 (a 5)) w := by kernel_rfl
def most (i : Nat) : Int := [99, 200, 20, 1000, 200, 2].getD i 0
theorem textOk_iff {a : Nat → Int} : textOk a = true ↔ ∀ i, i < 6 → inB (a i) 0 (most i) = true := by
  simp only [textOk, plainOk, Bool.and_eq_true]
  constructor
  · rintro ⟨h0, ⟨⟨⟨h1, h2⟩, h3⟩, h4⟩, h5⟩ i hi
    have : i = 0 ∨ i = 1 ∨ i = 2 ∨ i = 3 ∨ i = 4 ∨ i = 5 := by omega
    rcases this with rfl | rfl | rfl | rfl | rfl | rfl <;> assumption
  · intro h
    exact ⟨h 0 (by omega), ⟨⟨⟨h 1 (by omega), h 2 (by omega)⟩, h 3 (by omega)⟩, h 4 (by omega)⟩, h 5 (by omega)⟩
theorem textOk_false {a : Nat → Int} {i : Nat} (hi : i < 6) (h : inB (a i) 0 (most i) = false) : textOk a = false := by
  cases e : textOk a with
  | false => rfl
  | true => rw [textOk_iff.1 e i hi] at h; exact absurd h (by simp)
set_option maxRecDepth 100000 in
set_option maxHeartbeats 2000000 in
theorem hasText_any (a : Nat → Int) (ha : WfR a) (w : World) (T : TabAt w) : Calls Tryd.prog 102 #[vFlock a] w fun e w' => e = .returned (.bool (textOk a)) ∧ Below w.heap.size w w' := by
  go_enter Tryd.func102, Tryd.ntmps102
  go_wp2_with (go_at_call 110; refine (parts_any a ha _).mono ?_; rintro e w1 ⟨rfl, hb⟩; have B1 : Below w.heap.size w w1 := Below.trans ((Below.refl _ _).alloc (Nat.le_refl _) _) (hb.mono (by simp)); clear hb)
  have T1 := Lib.hid (T.later B1)
  have HB1 := Lib.hid B1
  clear T B1
  go_loop [7] (fun i => ∃ k : Nat, k ≤ 6 ∧ i = .int .i64 k ∧ Hid (∀ i, i < k → inB (a i) 0 (most i) = true)) (fun i => 6 - (intOf i).toNat)
  case atStart => exact ⟨0, by omega, rfl, Lib.hid (fun i hi => by omega)⟩
  case round =>
    obtain ⟨k, hk, rfl, hall⟩ := hrel
    by_cases hlt : k < 6
    · have hx : k = 0 ∨ k = 1 ∨ k = 2 ∨ k = 3 ∨ k = 4 ∨ k = 5 := by omega
      rcases hx with rfl | rfl | rfl | rfl | rfl | rfl
      · obtain ⟨u1, u2⟩ := ha.b0
        have tj := T1.out.t0
        by_cases n1 : a 0 < 0
        · have hx : Hid (textOk a = false) := Lib.hid (textOk_false (i := 0) (by omega) (inB_false (Or.inl n1)))
          go_wp2_with (rw [idx0]; go_simp)
          go_ret
          exact ⟨by rw [hx.out]; rfl, HB1.out⟩
        · by_cases n2 : 99 < a 0
          · have hx : Hid (textOk a = false) := Lib.hid (textOk_false (i := 0) (by omega) (inB_false (Or.inr n2)))
            go_wp2_with (rw [idx0]; go_simp)
            go_ret
            exact ⟨by rw [hx.out]; rfl, HB1.out⟩
          · have hx : Hid (inB (a 0) 0 (most 0) = true) := Lib.hid (inB_iff.2 ⟨by omega, by show a 0 ≤ 99; omega⟩)
            go_wp2_with (rw [idx0]; go_simp)
            go_round
            case rel => exact ⟨1, by omega, by go_num, Lib.hid (upto_succ hall.out hx.out)⟩
            case measure => simp [intOf]
      · obtain ⟨u1, u2⟩ := ha.b1
        have tj := T1.out.t1
        by_cases n1 : a 1 < 0
        · have hx : Hid (textOk a = false) := Lib.hid (textOk_false (i := 1) (by omega) (inB_false (Or.inl n1)))
          go_wp2_with (rw [idx1]; go_simp)
          go_ret
          exact ⟨by rw [hx.out]; rfl, HB1.out⟩
        · by_cases n2 : 200 < a 1
          · have hx : Hid (textOk a = false) := Lib.hid (textOk_false (i := 1) (by omega) (inB_false (Or.inr n2)))
            go_wp2_with (rw [idx1]; go_simp)
            go_ret
            exact ⟨by rw [hx.out]; rfl, HB1.out⟩
          · have hx : Hid (inB (a 1) 0 (most 1) = true) := Lib.hid (inB_iff.2 ⟨by omega, by show a 1 ≤ 200; omega⟩)
            go_wp2_with (rw [idx1]; go_simp)
            go_round
            case rel => exact ⟨2, by omega, by go_num, Lib.hid (upto_succ hall.out hx.out)⟩
            case measure => simp [intOf]
      · obtain ⟨u1, u2⟩ := ha.b2
        have tj := T1.out.t2
        by_cases n1 : a 2 < 0
        · have hx : Hid (textOk a = false) := Lib.hid (textOk_false (i := 2) (by omega) (inB_false (Or.inl n1)))
          go_wp2_with (rw [idx2]; go_simp)
          go_ret
          exact ⟨by rw [hx.out]; rfl, HB1.out⟩
        · by_cases n2 : 20 < a 2
          · have hx : Hid (textOk a = false) := Lib.hid (textOk_false (i := 2) (by omega) (inB_false (Or.inr n2)))
            go_wp2_with (rw [idx2]; go_simp)
            go_ret
            exact ⟨by rw [hx.out]; rfl, HB1.out⟩
          · have hx : Hid (inB (a 2) 0 (most 2) = true) := Lib.hid (inB_iff.2 ⟨by omega, by show a 2 ≤ 20; omega⟩)
            go_wp2_with (rw [idx2]; go_simp)
            go_round
            case rel => exact ⟨3, by omega, by go_num, Lib.hid (upto_succ hall.out hx.out)⟩
            case measure => simp [intOf]
      · obtain ⟨u1, u2⟩ := ha.b3
        have tj := T1.out.t3
        by_cases n1 : a 3 < 0
        · have hx : Hid (textOk a = false) := Lib.hid (textOk_false (i := 3) (by omega) (inB_false (Or.inl n1)))
          go_wp2_with (rw [idx3]; go_simp)
          go_ret
          exact ⟨by rw [hx.out]; rfl, HB1.out⟩
        · by_cases n2 : 1000 < a 3
          · have hx : Hid (textOk a = false) := Lib.hid (textOk_false (i := 3) (by omega) (inB_false (Or.inr n2)))
            go_wp2_with (rw [idx3]; go_simp)
            go_ret
            exact ⟨by rw [hx.out]; rfl, HB1.out⟩
          · have hx : Hid (inB (a 3) 0 (most 3) = true) := Lib.hid (inB_iff.2 ⟨by omega, by show a 3 ≤ 1000; omega⟩)
            go_wp2_with (rw [idx3]; go_simp)
            go_round
            case rel => exact ⟨4, by omega, by go_num, Lib.hid (upto_succ hall.out hx.out)⟩
            case measure => simp [intOf]
      · obtain ⟨u1, u2⟩ := ha.b4
        have tj := T1.out.t4
        by_cases n1 : a 4 < 0
        · have hx : Hid (textOk a = false) := Lib.hid (textOk_false (i := 4) (by omega) (inB_false (Or.inl n1)))
          go_wp2_with (rw [idx4]; go_simp)
          go_ret
          exact ⟨by rw [hx.out]; rfl, HB1.out⟩
        · by_cases n2 : 200 < a 4
          · have hx : Hid (textOk a = false) := Lib.hid (textOk_false (i := 4) (by omega) (inB_false (Or.inr n2)))
            go_wp2_with (rw [idx4]; go_simp)
            go_ret
            exact ⟨by rw [hx.out]; rfl, HB1.out⟩
          · have hx : Hid (inB (a 4) 0 (most 4) = true) := Lib.hid (inB_iff.2 ⟨by omega, by show a 4 ≤ 200; omega⟩)
            go_wp2_with (rw [idx4]; go_simp)
            go_round
            case rel => exact ⟨5, by omega, by go_num, Lib.hid (upto_succ hall.out hx.out)⟩
            case measure => simp [intOf]
      · obtain ⟨u1, u2⟩ := ha.b5
        have tj := T1.out.t5
        by_cases n1 : a 5 < 0
        · have hx : Hid (textOk a = false) := Lib.hid (textOk_false (i := 5) (by omega) (inB_false (Or.inl n1)))
          go_wp2_with (rw [idx5]; go_simp)
          go_ret
          exact ⟨by rw [hx.out]; rfl, HB1.out⟩
        · by_cases n2 : 2 < a 5
          · have hx : Hid (textOk a = false) := Lib.hid (textOk_false (i := 5) (by omega) (inB_false (Or.inr n2)))
            go_wp2_with (rw [idx5]; go_simp)
            go_ret
            exact ⟨by rw [hx.out]; rfl, HB1.out⟩
          · have hx : Hid (inB (a 5) 0 (most 5) = true) := Lib.hid (inB_iff.2 ⟨by omega, by show a 5 ≤ 2; omega⟩)
            go_wp2_with (rw [idx5]; go_simp)
            go_round
            case rel => exact ⟨6, by omega, by go_num, Lib.hid (upto_succ hall.out hx.out)⟩
            case measure => simp [intOf]
    · obtain rfl : k = 6 := by omega
      have hx : Hid (textOk a = true) := Lib.hid (textOk_iff.2 hall.out)
      go_wp2_with fail
      go_ret
      exact ⟨by rw [hx.out]; rfl, HB1.out⟩

/-- What the program asks of a flock: its numbers, and that its cell has a tree. -/
def fitOk (f : Fd) (a : Nat → Int) : Bool := textOk a && f.K (a 0).toNat == 3
theorem fit_flockOk {f : Fd} (hok : okF f = true) (a : Nat → Int) : fitOk f a = flockOk f a := by
  unfold fitOk flockOk textOk treeAt
  cases hp : plainOk a with
  | false => simp
  | true =>
    cases h0 : inB (a 0) 0 99 with
    | false => simp [isCell, h0]
    | true =>
      obtain ⟨h1, h2⟩ := inB_iff.1 h0
      obtain ⟨k, hk⟩ := Int.eq_ofNat_of_zero_le h1
      have hlt : k < 100 := by omega
      rw [hk]
      cases hc : isCell f (k : Int) with
      | true => simp
      | false =>
        have hall : allTo 100 (cellOk f) = true := by simp only [okF, Bool.and_eq_true] at hok; exact hok.2
        have := allTo_iff.1 hall k hlt
        simp only [cellOk, hc, Bool.false_or, Bool.and_eq_true, beq_iff_eq] at this
        simp [this.2.1]
set_option maxRecDepth 100000 in
set_option maxHeartbeats 1000000 in
theorem fits_any (a : Nat → Int) (ha : WfR a) (f : Fd) (_hf : f.Wf) (w : World) (T : TabAt w) : Calls Tryd.prog 86 #[vFlock a, .agg (fcells f)] w fun e w' => e = .returned (.bool (fitOk f a)) ∧ Below w.heap.size w w' := by
  cases ht : textOk a with
  | false =>
    have hr : fitOk f a = false := by simp [fitOk, ht]
    rw [hr]; clear hr
    go_enter Tryd.func86, Tryd.ntmps86
    go_upto_region 1 with (fail)
    obtain ⟨W, hW, M⟩ := open2 w #[.int .i16 (a 0), .int .i16 (a 1), .int .i16 (a 2), .int .i16 (a 3), .int .i16 (a 4), .int .i8 (a 5)] 38 (fcells f) 30
    rw [hW]; clear hW
    have d0 := (M.at 0 rfl).cell (i := 0) rfl
    have d1 := (M.at 0 rfl).cell (i := 1) rfl
    have d2 := (M.at 0 rfl).cell (i := 2) rfl
    have d3 := (M.at 0 rfl).cell (i := 3) rfl
    have d4 := (M.at 0 rfl).cell (i := 4) rfl
    have d5 := (M.at 0 rfl).cell (i := 5) rfl
    go_wp2_with (go_at_call 102; refine (hasText_any a ha _ (T.later M.below)).mono ?_; rintro e W1 ⟨rfl, hb⟩; rw [ht]; have M1 := M.call hb; clear hb)
    go_ret
    exact ⟨rfl, M1.below⟩
  | true =>
    have hr : fitOk f a = (f.K (a 0).toNat == 3) := by simp [fitOk, ht]
    rw [hr]; clear hr
    have h0 := textOk_iff.1 ht 0 (by omega)
    obtain ⟨h1, h2⟩ := inB_iff.1 h0
    have h2' : a 0 ≤ 99 := h2
    obtain ⟨k, hk⟩ := Int.eq_ofNat_of_zero_le h1
    have hlt : k < 100 := by omega
    have hk' := Lib.hid hk
    clear h0 h1 h2 h2' hk
    go_enter Tryd.func86, Tryd.ntmps86
    go_upto_region 1 with (fail)
    obtain ⟨W, hW, M⟩ := open2 w #[.int .i16 (a 0), .int .i16 (a 1), .int .i16 (a 2), .int .i16 (a 3), .int .i16 (a 4), .int .i8 (a 5)] 38 (fcells f) 30
    rw [hW]; clear hW
    have d0 := (M.at 0 rfl).cell (i := 0) rfl
    have d1 := (M.at 0 rfl).cell (i := 1) rfl
    have d2 := (M.at 0 rfl).cell (i := 2) rfl
    have d3 := (M.at 0 rfl).cell (i := 3) rfl
    have d4 := (M.at 0 rfl).cell (i := 4) rfl
    have d5 := (M.at 0 rfl).cell (i := 5) rfl
    have hHT := @hasText_any a ha W (T.later M.below)
    go_wp2_with (go_at_call 102; refine hHT.mono ?_; rintro e W1 ⟨rfl, hb⟩; rw [ht]; have M1 := M.call hb; clear hb d0 d1 d2 d3 d4 d5; have c0 : W1.cell? ⟨w.heap.size, 0, none⟩ = some (.int .i16 (k : Int)) := (by rw [← hk'.out]; exact (M1.at 0 rfl).cell (i := 0) rfl); have cK := (M1.at 1 rfl).cell (fcells_K f k hlt))
    go_ret
    exact ⟨by rw [hk'.out]; rfl, M1.below⟩

end Go.Proofs.YtaioflkonpommaaDoor
