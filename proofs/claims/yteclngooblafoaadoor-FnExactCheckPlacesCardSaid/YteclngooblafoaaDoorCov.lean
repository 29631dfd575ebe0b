/-
  What a scarecrow covers from a cell, and which cells cover one: the model's.
-/
import Derived.Test.YteclngooblafoaaDoorTgtS
namespace Go.Proofs.YteclngooblafoaaDoor
open Go Go.RowKit

/-- Whether a place covers a soil cell. -/
def cvQ (f : Fd) (p : Nat) (x y : Int) (k : Nat) : Bool := f.K k == 0 && decide (y ≤ x / (1 + sq (p : Int) (k : Int)))
def cvS (f : Fd) (p : Nat) (x y : Int) : Nat → Int := wantSet f (cvQ f p x y) 100
/-- Whether a place can have a scarecrow, and covers a cell. -/
def cvrQ (f : Fd) (c : Nat) (x y : Int) (p : Nat) : Bool := (f.K p != 3) && hasC (cvS f p x y) (c : Int)
def cvrS (f : Fd) (c : Nat) (x y : Int) : Nat → Int := wantSet f (cvrQ f c x y) 100
theorem cvS_has (f : Fd) (p : Nat) (x y : Int) {c : Nat} (hc : c < 100) : hasC (cvS f p x y) (c : Int) = ((isCell f (c : Int) && f.K c == 0) && decide (y ≤ x / (1 + sq (p : Int) (c : Int)))) := by
  unfold cvS
  rw [hasC_want f _ hc, decide_eq_true hc, Bool.true_and]
  unfold cvQ
  rw [Bool.and_assoc]
theorem l03Numbers_any (x y : Int) (w : World) : Calls Tryd.prog 42 #[.int .i64 x, .int .i64 y] w fun e w' => e = .returned (.bool (inB x 1 1000 && inB y 1 1000)) ∧ w = w' := by
  have ok1 : True := trivial
  have ok2 : True := trivial
  cases hx : inB x 1 1000 with
  | false =>
    rw [Bool.false_and]
    go_enter Tryd.func42, Tryd.ntmps42
    go_wp2_with (go_at_call 33; refine (l03Power_any _ _).mono ?_; rintro e w1 ⟨rfl, rfl⟩; rw [hx])
    go_ret
    exact ⟨rfl, rfl⟩
  | true =>
    rw [Bool.true_and]
    have HX := Lib.hid hx
    obtain ⟨q, hq⟩ : ∃ q, inB y 1 1000 = q := ⟨_, rfl⟩
    rw [hq]
    clear hx
    go_enter Tryd.func42, Tryd.ntmps42
    go_wp2_with (first
      | (clear ok1; go_at_call 33; refine (l03Power_any x _).mono ?_; rintro e w1 ⟨rfl, rfl⟩; rw [HX.out])
      | (clear ok2; go_at_call 33; refine (l03Power_any y _).mono ?_; rintro e w1 ⟨rfl, rfl⟩; rw [hq]))
    go_ret
    exact ⟨rfl, rfl⟩
set_option maxRecDepth 100000 in
set_option maxHeartbeats 4000000 in
theorem l03Covers_any (f : Fd) (hf : f.Wf) (p : Nat) (hp : p < 100) (c : Nat) (hc : c < 100) (x y : Int) (hx : 1 ≤ x ∧ x ≤ 1000) (hy : 1 ≤ y ∧ y ≤ 1000) (b : Nat) (w : World) (B : Blk w b (fcells f) 33) :
    Calls Tryd.prog 45 #[.pointer (some ⟨b, 0, none⟩), .int .i64 (p : Int), .int .i64 (c : Int), .int .i64 x, .int .i64 y] w fun e w' => e = .returned (.bool (isCell f (p : Int) && cvrQ f c x y p)) ∧ w = w' := by
  unfold cvrQ
  rw [cvS_has f p x y hc]
  have hs0 := sq_in (a := (p : Int)) (b := (c : Int)) ⟨by omega, by omega⟩ ⟨by omega, by omega⟩
  have hsq := Lib.hid (fun w => sqS (p : Int) (c : Int) ⟨by omega, by omega⟩ ⟨by omega, by omega⟩ w)
  obtain ⟨s, hs⟩ : ∃ s, sq (p : Int) (c : Int) = s := ⟨_, rfl⟩
  rw [hs] at hs0 ⊢
  have HSQ := Lib.hid hs
  obtain ⟨hs1, hs2⟩ := hs0
  obtain ⟨hx1, hx2⟩ := hx
  obtain ⟨hy1, hy2⟩ := hy
  have hd1 : 0 ≤ x / (1 + s) := Int.ediv_nonneg (by omega) (by omega)
  have hd2 : x / (1 + s) ≤ x := Int.ediv_le_self _ (by omega)
  have hw1 : IntKind.i64.wrap (1 + s) = 1 + s := IntWalk.i64_in _ (by omega)
  have hw2 : IntKind.i64.wrap (x.tdiv (1 + s)) = x / (1 + s) := by rw [Int.tdiv_eq_ediv_of_nonneg (by omega)]; exact IntWalk.i64_in _ (by omega)
  have hne : ¬ (1 + s = 0) := by omega
  have hpK := hf.K p hp
  have cK := B.cell (fcells_K f p hp)
  have hp1 : (p : Int) < 100 := by omega
  have HB := Lib.hid B
  clear B hs
  cases hcp : isCell f (p : Int) with
  | false =>
    rw [Bool.false_and]
    clear hd1 hd2
    go_enter Tryd.func45, Tryd.ntmps45
    go_wp2_with (go_at_call 20; refine (l01Is_any f _ b _ hf.W hf.H HB.out).mono ?_; rintro e w1 ⟨rfl, rfl⟩; rw [hcp])
    go_ret
    exact ⟨rfl, rfl⟩
  | true =>
  rw [Bool.true_and]
  have HCP := Lib.hid hcp
  by_cases hK : f.K p = 3
  · rw [show (f.K p != 3) = false by simp [hK], Bool.false_and]
    clear hd1 hd2 hcp
    go_enter Tryd.func45, Tryd.ntmps45
    go_wp2_with (go_at_call 20; refine (l01Is_any f _ b _ hf.W hf.H HB.out).mono ?_; rintro e w1 ⟨rfl, rfl⟩; rw [HCP.out])
    go_ret
    exact ⟨rfl, rfl⟩
  · rw [show (f.K p != 3) = true by simpa using hK, Bool.true_and]
    obtain ⟨q, hq⟩ : ∃ q, (isCell f (c : Int) && f.K c == 0) = q := ⟨_, rfl⟩
    have HQ := Lib.hid hq
    rw [hq]
    clear hq hcp
    cases q with
    | false =>
      rw [Bool.false_and]
      clear hd1 hd2
      go_enter Tryd.func45, Tryd.ntmps45
      go_wp2_with (first
        | (go_at_call 20; refine (l01Is_any f _ b _ hf.W hf.H HB.out).mono ?_; rintro e w1 ⟨rfl, rfl⟩; rw [HCP.out])
        | (go_at_call 47; refine (l03Soil_any f hf c hc b _ HB.out).mono ?_; rintro e w' ⟨rfl, rfl⟩; rw [HQ.out]))
      go_ret
      exact ⟨rfl, rfl⟩
    | true =>
      rw [Bool.true_and]
      obtain ⟨v, hv⟩ : ∃ v, x / (1 + s) = v := ⟨_, rfl⟩
      rw [hv] at hd1 hd2 hw2 ⊢
      clear hv
      go_enter Tryd.func45, Tryd.ntmps45
      go_wp2_with (first
        | (go_at_call 20; refine (l01Is_any f _ b _ hf.W hf.H HB.out).mono ?_; rintro e w1 ⟨rfl, rfl⟩; rw [HCP.out])
        | (go_at_call 47; refine (l03Soil_any f hf c hc b _ HB.out).mono ?_; rintro e w' ⟨rfl, rfl⟩; rw [HQ.out])
        | (go_at_call 67; refine (hsq.out _).mono ?_; rintro e w' ⟨rfl, rfl⟩; rw [HSQ.out]))
      go_ret
      exact ⟨rfl, rfl⟩
/-- The code of a field, a cell, a power and a least fear. -/
def cvrCode (f : Fd) (c x y : Int) : Int := asked f c (inB x 1 1000 && inB y 1 1000)
def cvrVal (f : Fd) (c x y : Int) : Nat → Int := if cvrCode f c x y = 0 then cvrS f c.toNat x y else fun _ => 0
theorem asked_cases (f : Fd) (c : Int) (q : Bool) : (asked f c q = 0 ∧ okF f = true ∧ isCell f c = true ∧ q = true) ∨ (asked f c q = 1 ∧ okF f = false) ∨ (asked f c q = 2 ∧ okF f = true ∧ (isCell f c = false ∨ q = false)) := by
  unfold asked
  cases okF f <;> cases isCell f c <;> cases q <;> simp
end Go.Proofs.YteclngooblafoaaDoor
