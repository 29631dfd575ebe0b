/-
  The program's small functions on numbers, places and spots.
-/
import Derived.Test.YtpplakfmdjajiaaDoorSpec1
import Derived.StillTailTactics
namespace Go.Proofs.YtpplakfmdjajiaaDoor
open Go Go.RowKit

theorem isSize_any (n : Int) (w : World) : Calls Tryd.prog 129 #[.int .i64 n] w fun e w' => e = .returned (.bool (inB n 1 10)) ∧ w = w' := by
  by_cases h1 : 1 ≤ n
  · by_cases h2 : n ≤ 10
    · rw [inB_iff.2 ⟨h1, h2⟩]
      go_enter Tryd.func129, Tryd.ntmps129
      go_wp2_with fail
      go_ret
      exact ⟨rfl, rfl⟩
    · rw [inB_false (.inr (by omega))]
      go_enter Tryd.func129, Tryd.ntmps129
      go_wp2_with fail
      go_ret
      exact ⟨rfl, rfl⟩
  · rw [inB_false (.inl (by omega))]
    go_enter Tryd.func129, Tryd.ntmps129
    go_wp2_with fail
    go_ret
    exact ⟨rfl, rfl⟩
theorem isSeeds_any (n : Int) (w : World) : Calls Tryd.prog 135 #[.int .i64 n] w fun e w' => e = .returned (.bool (inB n 0 1000)) ∧ w = w' := by
  by_cases h1 : 0 ≤ n
  · by_cases h2 : n ≤ 1000
    · rw [inB_iff.2 ⟨h1, h2⟩]
      go_enter Tryd.func135, Tryd.ntmps135
      go_wp2_with fail
      go_ret
      exact ⟨rfl, rfl⟩
    · rw [inB_false (.inr (by omega))]
      go_enter Tryd.func135, Tryd.ntmps135
      go_wp2_with fail
      go_ret
      exact ⟨rfl, rfl⟩
  · rw [inB_false (.inl (by omega))]
    go_enter Tryd.func135, Tryd.ntmps135
    go_wp2_with fail
    go_ret
    exact ⟨rfl, rfl⟩
theorem isKind_any (n : Int) (w : World) : Calls Tryd.prog 136 #[.int .i64 n] w fun e w' => e = .returned (.bool (inB n 0 3)) ∧ w = w' := by
  by_cases h1 : 0 ≤ n
  · by_cases h2 : n ≤ 3
    · rw [inB_iff.2 ⟨h1, h2⟩]
      go_enter Tryd.func136, Tryd.ntmps136
      go_wp2_with fail
      go_ret
      exact ⟨rfl, rfl⟩
    · rw [inB_false (.inr (by omega))]
      go_enter Tryd.func136, Tryd.ntmps136
      go_wp2_with fail
      go_ret
      exact ⟨rfl, rfl⟩
  · rw [inB_false (.inl (by omega))]
    go_enter Tryd.func136, Tryd.ntmps136
    go_wp2_with fail
    go_ret
    exact ⟨rfl, rfl⟩

theorem placeOf_any (n : Int) (w : World) : Calls Tryd.prog 132 #[.int .i64 n] w fun e w' => e = .returned (.tuple #[.int .i64 (n.tmod 10), .int .i64 (wrap64 (n.tdiv 10))]) ∧ w = w' := by
  go_enter Tryd.func132, Tryd.ntmps132
  go_wp2_with fail
  go_ret2
  exact ⟨rfl, rfl⟩
/-- Has the field this place? -/
def placeIn (f : Fd) (x y : Int) : Bool := decide (0 ≤ x) && decide (x < f.W) && decide (0 ≤ y) && decide (y < f.H)
set_option maxRecDepth 100000 in
theorem hasPlace_any (f : Fd) (hf : f.Wf) (x y : Int) (w : World) : Calls Tryd.prog 133 #[.agg (fcells f), .int .i64 x, .int .i64 y] w fun e w' => e = .returned (.bool (placeIn f x y)) ∧ Below w.heap.size w w' := by
  have c0 := fcells_0 f
  have c1 := fcells_1 f
  obtain ⟨hW1, hW2⟩ := hf.W
  obtain ⟨hH1, hH2⟩ := hf.H
  unfold placeIn
  by_cases h1 : 0 ≤ x <;> by_cases h2 : x < f.W <;> by_cases h3 : 0 ≤ y <;> by_cases h4 : y < f.H <;>
    (go_enter Tryd.func133, Tryd.ntmps133
     go_wp2_with fail
     go_ret
     exact ⟨ret_bool (by simp [h1, h2, h3, h4]), (Below.refl _ _).alloc (Nat.le_refl _) _⟩)

theorem tdiv_small (c : Int) (h1 : -9223372036854775808 ≤ c) (h2 : c ≤ 9223372036854775807) : wrap64 (c.tdiv 10) = c.tdiv 10 := by
  apply IntWalk.wrap64_in
  rcases Int.le_total 0 c with h | h
  · rw [Int.tdiv_eq_ediv_of_nonneg h]; omega
  · have : c.tdiv 10 = -((-c).tdiv 10) := by rw [Int.neg_tdiv]; omega
    rw [this, Int.tdiv_eq_ediv_of_nonneg (by omega)]; omega
theorem placeIn_cell {f : Fd} (hH : f.H ≤ 10) (c : Int) (h1 : -9223372036854775808 ≤ c) (h2 : c ≤ 9223372036854775807) : placeIn f (c.tmod 10) (wrap64 (c.tdiv 10)) = isCell f c := by
  rw [tdiv_small c h1 h2]
  unfold placeIn isCell inB
  rw [Bool.eq_iff_iff]
  simp only [Bool.and_eq_true, decide_eq_true_eq]
  rcases Int.le_total 0 c with h | h
  · rw [Int.tdiv_eq_ediv_of_nonneg h, Int.tmod_eq_emod_of_nonneg h]; omega
  · by_cases h0 : c = 0
    · subst h0; simp
    · have e1 : c.tdiv 10 = -((-c).tdiv 10) := by rw [Int.neg_tdiv]; omega
      have e2 : c.tmod 10 = -((-c).tmod 10) := by rw [Int.neg_tmod]; omega
      rw [e1, e2, Int.tdiv_eq_ediv_of_nonneg (by omega), Int.tmod_eq_emod_of_nonneg (by omega)]; omega
set_option maxRecDepth 100000 in
theorem fieldHas_any (f : Fd) (hf : f.Wf) (hH : f.H ≤ 10) (c : Int) (h1 : -9223372036854775808 ≤ c) (h2 : c ≤ 9223372036854775807) (w : World) : Calls Tryd.prog 117 #[.agg (fcells f), .int .i64 c] w fun e w' => e = .returned (.bool (isCell f c)) ∧ Below w.heap.size w w' := by
  rw [← placeIn_cell hH c h1 h2]
  go_enter Tryd.func117, Tryd.ntmps117
  go_wp2_with (first | (go_at_call 132; refine (placeOf_any _ _).mono ?_; rintro e w' ⟨rfl, rfl⟩) | (refine wpList_load_row rfl 32 _ rfl w.heap.size rfl 32 _ (0, 0) _ (Blk.new w (fcells f) 32) Tryd.underlying32 rfl (by rw [fcells_size]; exact sizeFd) ?_) | (go_at_call 133; refine (hasPlace_any f hf _ _ _).mono ?_; rintro e w' ⟨rfl, hb⟩))
  go_ret
  exact ⟨rfl, ((Below.refl _ _).alloc (Nat.le_refl _) _).trans (hb.mono (by simp))⟩

set_option maxRecDepth 100000 in
theorem spotAt_any (f : Fd) (k : Nat) (hk : k < 100) (w : World) : Calls Tryd.prog 130 #[.agg (fcells f), .int .i64 k] w fun e w' => e = .returned (.agg #[.int .u8 (f.K k), .int .i16 (f.S k)]) ∧ Below w.heap.size w w' := by
  go_enter Tryd.func130, Tryd.ntmps130
  go_wp2_with fail
  obtain ⟨W, hW, M⟩ := open2 w (fcells f) 32 #[.int .u8 0, .int .i16 0] 154
  rw [hW]; clear hW
  have cK := (M.at 0 rfl).cell (fcells_K f k hk)
  have cS := (M.at 0 rfl).cell (fcells_S f k hk)
  have hk1 : (k : Int) < 100 := by omega
  have d0 := (M.at 1 rfl).cell (i := 0) (v := .int .u8 0) rfl
  have d1 := (M.at 1 rfl).cell (i := 1) (v := .int .i16 0) rfl
  have e0 := (M.at 1 rfl).free 0
  have e1 := (M.at 1 rfl).free 1
  go_still_tail 9, (by kernel_rfl)
  change wpList _ _ _ _ _ (World.drew _)
  go_wp2_with fail
  have M2 := (M.drew.set 1 0 (.int .u8 (f.K k)) rfl _ rfl).set 1 1 (.int .i16 (f.S k)) rfl _ rfl
  exact bodyPost_ret (results_cell_row rfl _ _ (w.heap.size + 1) 154 _ _ _ rfl (M2.at 1 rfl) Tryd.underlying154 rfl (by kernel_rfl)) rfl ⟨rfl, M2.below⟩

/-- May a cell of a valid field have this kind and these seeds? -/
def spotOk (k s : Int) : Bool := if k = 0 then inB s 0 1000 else inB k 0 3 && s == 0
set_option maxRecDepth 100000 in
theorem isValid_any (k s : Int) (hk : 0 ≤ k ∧ k ≤ 255) (hs : -32768 ≤ s ∧ s ≤ 32767) (w : World) : Calls Tryd.prog 131 #[.agg #[.int .u8 k, .int .i16 s]] w fun e w' => e = .returned (.bool (spotOk k s)) ∧ Below w.heap.size w w' := by
  obtain ⟨hk1, hk2⟩ := hk
  obtain ⟨hs1, hs2⟩ := hs
  unfold spotOk
  by_cases h0 : k = 0
  · subst h0
    go_enter Tryd.func131, Tryd.ntmps131
    go_wp2_with (go_at_call 135; refine (isSeeds_any _ _).mono ?_; rintro e w' ⟨rfl, rfl⟩)
    go_ret
    exact ⟨rfl, (Below.refl _ _).alloc (Nat.le_refl _) _⟩
  · rw [if_neg h0]
    have h0' : (k == 0) = false := by simpa using h0
    clear h0
    cases h1 : inB k 0 3 with
    | true =>
      go_enter Tryd.func131, Tryd.ntmps131
      go_wp2_with (go_at_call 136; refine (isKind_any _ _).mono ?_; rintro e w' ⟨rfl, rfl⟩)
      go_ret
      exact ⟨rfl, (Below.refl _ _).alloc (Nat.le_refl _) _⟩
    | false =>
      go_enter Tryd.func131, Tryd.ntmps131
      go_wp2_with (go_at_call 136; refine (isKind_any _ _).mono ?_; rintro e w' ⟨rfl, rfl⟩)
      go_ret
      exact ⟨rfl, (Below.refl _ _).alloc (Nat.le_refl _) _⟩
theorem cellAt_any (x y : Int) (hx : 0 ≤ x ∧ x ≤ 1000) (hy : 0 ≤ y ∧ y ≤ 1000) (w : World) : Calls Tryd.prog 95 #[.int .i64 x, .int .i64 y] w fun e w' => e = .returned (.int .i64 (x + 10 * y)) ∧ w = w' := by
  obtain ⟨hx1, hx2⟩ := hx
  obtain ⟨hy1, hy2⟩ := hy
  go_enter Tryd.func95, Tryd.ntmps95
  go_wp2_with fail
  go_ret
  exact ⟨rfl, rfl⟩
theorem cellsIn_any (f : Fd) (w : World) : Calls Tryd.prog 51 #[.agg (fcells f)] w fun e w' => e = .returned (.func (.func 94) #[] #[.pointer (some ⟨w.heap.size, 0, none⟩)]) ∧ w.alloc (.cells (fcells f) 32) = w' := by
  go_enter Tryd.func51, Tryd.ntmps51
  go_wp2_with fail
  go_ret
  exact ⟨rfl, rfl⟩
end Go.Proofs.YtpplakfmdjajiaaDoor
