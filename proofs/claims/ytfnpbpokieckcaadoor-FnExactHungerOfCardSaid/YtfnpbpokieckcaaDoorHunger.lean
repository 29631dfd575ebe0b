/-
  HungerOf: the model's, the program's.
-/
import Derived.Test.YtfnpbpokieckcaaDoorChkB
namespace Go.Proofs.YtfnpbpokieckcaaDoor
open Go Go.RowKit

def okHunger (f : Fd) (a : Nat → Int) : Bool := okF f && flockOk f a
def hungerOf (f : Fd) (a : Nat → Int) : Int := if okHunger f a then a 1 * a 2 else 0
def hungerCode (f : Fd) (a : Nat → Int) : Int := if okHunger f a then 0 else 1
theorem mul_small {x y : Int} (hx : -32768 ≤ x ∧ x ≤ 32767) (hy : -32768 ≤ y ∧ y ≤ 32767) : -1073741824 ≤ x * y ∧ x * y ≤ 1073741824 := by
  obtain ⟨h1, h2⟩ := hx
  obtain ⟨h3, h4⟩ := hy
  have e : (x * y).natAbs = x.natAbs * y.natAbs := Int.natAbs_mul x y
  have : x.natAbs * y.natAbs ≤ 32768 * 32768 := Nat.mul_le_mul (by omega) (by omega)
  omega
theorem l02Hunger_any (a : Nat → Int) (ha : WfR a) (b o : Nat) (w : World) (h : FlkAt w b o a) : Calls Tryd.prog 53 #[.pointer (some ⟨b, o, none⟩)] w fun e w' => e = .returned (.int .i64 (a 1 * a 2)) ∧ Below w.heap.size w w' := by
  have c1 := h.c1
  have c2 := h.c2
  obtain ⟨m1, m2⟩ := mul_small ha.b1 ha.b2
  obtain ⟨a11, a12⟩ := ha.b1
  obtain ⟨a21, a22⟩ := ha.b2
  clear ha h
  generalize a 1 = x at *
  generalize a 2 = y at *
  go_enter Tryd.func53, Tryd.ntmps53
  go_wp2_with fail
  go_region
  go_wp2_with fail
  go_ret
  exact ⟨rfl, (Below.refl _ _).drew⟩
theorem hunger_any (a : Nat → Int) (ha : WfR a) (w : World) : Calls Tryd.prog 55 #[vFlock a] w fun e w' => e = .returned (.int .i64 (a 1 * a 2)) ∧ Below w.heap.size w w' := by
  obtain ⟨m1, m2⟩ := mul_small ha.b1 ha.b2
  obtain ⟨a11, a12⟩ := ha.b1
  obtain ⟨a21, a22⟩ := ha.b2
  clear ha
  show Calls Tryd.prog 55 #[.agg #[.int .i16 (a 0), .int .i16 (a 1), .int .i16 (a 2), .int .i16 (a 3), .int .i16 (a 4), .int .i8 (a 5)]] w _
  generalize a 1 = x at *
  generalize a 2 = y at *
  go_enter Tryd.func55, Tryd.ntmps55
  go_wp2_with fail
  go_ret
  exact ⟨rfl, (Below.refl _ _).alloc (Nat.le_refl _) _⟩
theorem flk_mem {w : World} {b : Nat} {a : Nat → Int} {t : TypeId} (B : Blk w b #[.int .i16 (a 0), .int .i16 (a 1), .int .i16 (a 2), .int .i16 (a 3), .int .i16 (a 4), .int .i8 (a 5)] t) : FlkAt w b 0 a :=
  ⟨B.cell (i := 0) rfl, B.cell (i := 1) rfl, B.cell (i := 2) rfl, B.cell (i := 3) rfl, B.cell (i := 4) rfl, B.cell (i := 5) rfl⟩
set_option maxRecDepth 100000 in
set_option maxHeartbeats 1000000 in
theorem specHungerOf (f : Fd) (hf : f.Wf) (a : Nat → Int) (ha : WfR a) (w : World) : Calls Tryd.prog 20 #[.agg (fcells f), vFlock a] w fun e w' => e = .returned (.tuple #[.int .i64 (hungerOf f a), .int .i64 (hungerCode f a)]) ∧ Below w.heap.size w w' := by
  unfold hungerOf hungerCode
  cases hok : okF f with
  | false =>
    have h0 : okHunger f a = false := by simp [okHunger, hok]
    simp only [h0, Bool.false_eq_true, if_false]
    go_enter Tryd.func20, Tryd.ntmps20
    go_upto_region 1 with (fail)
    obtain ⟨W, hW, M⟩ := open2 w (fcells f) 28 #[.int .i16 (a 0), .int .i16 (a 1), .int .i16 (a 2), .int .i16 (a 3), .int .i16 (a 4), .int .i8 (a 5)] 42
    rw [hW]; clear hW
    go_wp2_with (go_at_call 48; refine (l01Ok_any f hf _ _ (M.at 0 rfl)).mono ?_; rintro e w' ⟨rfl, rfl⟩; rw [hok])
    go_ret2
    exact ⟨rfl, M.below⟩
  | true =>
    cases hfl : flockOk f a with
    | false =>
      have h0 : okHunger f a = false := by simp [okHunger, hfl]
      simp only [h0, Bool.false_eq_true, if_false]
      go_enter Tryd.func20, Tryd.ntmps20
      go_upto_region 1 with (fail)
      obtain ⟨W, hW, M⟩ := open2 w (fcells f) 28 #[.int .i16 (a 0), .int .i16 (a 1), .int .i16 (a 2), .int .i16 (a 3), .int .i16 (a 4), .int .i8 (a 5)] 42
      rw [hW]; clear hW
      go_wp2_with (first | (go_at_call 48; refine (l01Ok_any f hf _ _ (M.at 0 rfl)).mono ?_; rintro e w' ⟨rfl, rfl⟩; rw [hok]) | (go_at_call 52; refine (l02Flock_any f hf a ha _ _ 0 _ (M.at 0 rfl) (flk_mem (M.at 1 rfl))).mono ?_; rintro e w' ⟨rfl, rfl⟩; rw [hfl]))
      go_ret2
      exact ⟨rfl, M.below⟩
    | true =>
      have h0 : okHunger f a = true := by simp [okHunger, hok, hfl]
      simp only [h0, if_true]
      go_enter Tryd.func20, Tryd.ntmps20
      go_upto_region 1 with (fail)
      obtain ⟨W, hW, M⟩ := open2 w (fcells f) 28 #[.int .i16 (a 0), .int .i16 (a 1), .int .i16 (a 2), .int .i16 (a 3), .int .i16 (a 4), .int .i8 (a 5)] 42
      rw [hW]; clear hW
      go_wp2_with (first | (go_at_call 48; refine (l01Ok_any f hf _ _ (M.at 0 rfl)).mono ?_; rintro e w' ⟨rfl, rfl⟩; rw [hok]) | (go_at_call 52; refine (l02Flock_any f hf a ha _ _ 0 _ (M.at 0 rfl) (flk_mem (M.at 1 rfl))).mono ?_; rintro e w' ⟨rfl, rfl⟩; rw [hfl]) | (go_at_call 53; refine (l02Hunger_any a ha _ 0 _ (flk_mem (M.at 1 rfl))).mono ?_; rintro e w' ⟨rfl, hb⟩; have M5 := M.call hb))
      go_ret2
      exact ⟨rfl, M5.below⟩
theorem okFlocks_one (f : Fd) (a : Nat → Int) : okFlocks f 1 (fun _ => a) = okHunger f a := by
  unfold okFlocks okHunger
  have : allTo 1 (fun _ => flockOk f a) = flockOk f a := by
    cases h : flockOk f a with
    | true => exact allTo_iff.2 (fun _ _ => rfl)
    | false => exact allTo_false (i := 0) (by omega) rfl
  rw [this]; simp
theorem wfS_one {a : Nat → Int} (ha : WfR a) : WfS ksFlock 1 (fun _ => a) := fun i _ j hj => by
  have : j = 0 ∨ j = 1 ∨ j = 2 ∨ j = 3 ∨ j = 4 ∨ j = 5 := by simp at hj; omega
  rcases this with rfl | rfl | rfl | rfl | rfl | rfl
  · exact lit_i16 ha.b0
  · exact lit_i16 ha.b1
  · exact lit_i16 ha.b2
  · exact lit_i16 ha.b3
  · exact lit_i16 ha.b4
  · exact lit_i8 ha.b5
theorem inS_one {w : World} {b : Nat} {a : Nat → Int} {t : TypeId} (B : Blk w b #[.int .i16 (a 0), .int .i16 (a 1), .int .i16 (a 2), .int .i16 (a 3), .int .i16 (a 4), .int .i8 (a 5)] t) : InS w b 0 1 ksFlock (fun _ => a) :=
  Blk.inS (show Blk w b (scells ksFlock 1 (fun _ => a)) t from B)
set_option maxRecDepth 100000 in
set_option maxHeartbeats 1000000 in
theorem implHungerOf (f : Fd) (hf : f.Wf) (a : Nat → Int) (ha : WfR a) (A : Nat → Addr) (w : World) (T0 : TabAt w) (S0 : Sents w A) : Calls Tryd.prog 22 #[.agg (fcells f), vFlock a] w fun e w' => e = .returned (.tuple #[.int .i64 (hungerOf f a), .int .i64 (hungerCode f a)]) ∧ Below w.heap.size w w' := by
  have S := Lib.hid S0
  have T := Lib.hid T0
  clear S0 T0
  have hif := isIfaceErr
  unfold hungerOf hungerCode
  cases hok : okHunger f a with
  | false =>
    simp only [Bool.false_eq_true, if_false]
    go_enter Tryd.func22, Tryd.ntmps22
    go_upto_region 1 with (fail)
    obtain ⟨W, hW, M⟩ := open2 w (fcells f) 28 #[.int .i16 (a 0), .int .i16 (a 1), .int .i16 (a 2), .int .i16 (a 3), .int .i16 (a 4), .int .i8 (a 5)] 42
    rw [hW]; clear hW
    have d0 := (M.at 1 rfl).cell (i := 0) rfl
    have d1 := (M.at 1 rfl).cell (i := 1) rfl
    have d2 := (M.at 1 rfl).cell (i := 2) rfl
    have d3 := (M.at 1 rfl).cell (i := 3) rfl
    have d4 := (M.at 1 rfl).cell (i := 4) rfl
    have d5 := (M.at 1 rfl).cell (i := 5) rfl
    go_wp2_with (first
      | (refine wpList_load_part rfl 28 _ rfl w.heap.size 0 rfl (fcells f) _ (M.at 0 rfl).whole Tryd.underlying28 rfl (by rw [fcells_size]; exact sizeFd) ?_)
      | (refine wpList_buildRow rfl 48 42 _ rfl #[.int .i16 (a 0), .int .i16 (a 1), .int .i16 (a 2), .int .i16 (a 3), .int .i16 (a 4), .int .i8 (a 5)] rfl Tryd.underlying48 (by kernel_rfl) (by kernel_rfl) (by decide) (by decide) ?_)
      | (go_at_call 54; go_loud (refine (checkBirds0 f hf 1 (by omega) (fun _ => a) (wfS_one ha) A _ _ _ (T.out.later (M.alloc _ _).below) (S.out.later (M.alloc _ _).below) (inS_one (Blk.new _ _ _))).mono ?_; rintro e W2 ⟨rfl, hb⟩; rw [okFlocks_one, hok]; simp only [errIf, Bool.false_eq_true, if_false]; have M2 := (M.alloc _ _).call hb))
      | (go_at_call 38; refine (codeOf_err A 1 (by omega) (by omega) _ (S.out.later M2.below)).mono ?_; rintro e W3 ⟨rfl, rfl⟩))
    go_ret2
    exact ⟨rfl, M2.below⟩
  | true =>
    simp only [if_true]
    go_enter Tryd.func22, Tryd.ntmps22
    go_upto_region 1 with (fail)
    obtain ⟨W, hW, M⟩ := open2 w (fcells f) 28 #[.int .i16 (a 0), .int .i16 (a 1), .int .i16 (a 2), .int .i16 (a 3), .int .i16 (a 4), .int .i8 (a 5)] 42
    rw [hW]; clear hW
    have d0 := (M.at 1 rfl).cell (i := 0) rfl
    have d1 := (M.at 1 rfl).cell (i := 1) rfl
    have d2 := (M.at 1 rfl).cell (i := 2) rfl
    have d3 := (M.at 1 rfl).cell (i := 3) rfl
    have d4 := (M.at 1 rfl).cell (i := 4) rfl
    have d5 := (M.at 1 rfl).cell (i := 5) rfl
    go_wp2_with (first
      | (refine wpList_load_part rfl 28 _ rfl w.heap.size 0 rfl (fcells f) _ (M.at 0 rfl).whole Tryd.underlying28 rfl (by rw [fcells_size]; exact sizeFd) ?_)
      | (refine wpList_buildRow rfl 48 42 _ rfl #[.int .i16 (a 0), .int .i16 (a 1), .int .i16 (a 2), .int .i16 (a 3), .int .i16 (a 4), .int .i8 (a 5)] rfl Tryd.underlying48 (by kernel_rfl) (by kernel_rfl) (by decide) (by decide) ?_)
      | (go_at_call 54; go_loud (refine (checkBirds0 f hf 1 (by omega) (fun _ => a) (wfS_one ha) A _ _ _ (T.out.later (M.alloc _ _).below) (S.out.later (M.alloc _ _).below) (inS_one (Blk.new _ _ _))).mono ?_; rintro e W2 ⟨rfl, hb⟩; rw [okFlocks_one, hok]; simp only [errIf, if_true]; have M2 := (M.alloc _ _).call hb; clear d0 d1 d2 d3 d4 d5; have d0 := (M2.at 1 rfl).cell (i := 0) rfl; have d1 := (M2.at 1 rfl).cell (i := 1) rfl; have d2 := (M2.at 1 rfl).cell (i := 2) rfl; have d3 := (M2.at 1 rfl).cell (i := 3) rfl; have d4 := (M2.at 1 rfl).cell (i := 4) rfl; have d5 := (M2.at 1 rfl).cell (i := 5) rfl))
      | (go_at_call 55; refine (hunger_any a ha _).mono ?_; rintro e W3 ⟨rfl, hb⟩; have M3 := M2.call hb))
    go_ret2
    exact ⟨rfl, M3.below⟩
end Go.Proofs.YtfnpbpokieckcaaDoor
