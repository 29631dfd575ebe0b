/-
  HungerOf: the model's, the program's.
-/
import Derived.Test.YtaioflkonpommaaDoorChkB
namespace Go.Proofs.YtaioflkonpommaaDoor
open Go Go.RowKit

def okHunger (f : Fd) (a : Nat → Int) : Bool := okF f && flockOk f a
def hungerOf (f : Fd) (a : Nat → Int) : Int := if okHunger f a then a 1 * a 2 else 0
def hungerCode (f : Fd) (a : Nat → Int) : Int := if okHunger f a then 0 else 1
theorem mul_small {x y : Int} (hx : -32768 ≤ x ∧ x ≤ 32767) (hy : -32768 ≤ y ∧ y ≤ 32767) : -1073741824 ≤ x * y ∧ x * y ≤ 1073741824 := by
  obtain ⟨h1, h2⟩ := hx
  obtain ⟨h3, h4⟩ := hy
  have e : (x * y).natAbs = x.natAbs * y.natAbs := Int.natAbs_mul x y
  have : x.natAbs * y.natAbs ≤ 32768 * 32768 := Nat.mul_le_mul (by omega) (by omega)
  omega
theorem l02Hunger_any (a : Nat → Int) (ha : WfR a) (b o : Nat) (w : World) (h : FlkAt w b o a) : Calls Tryd.prog 40 #[.pointer (some ⟨b, o, none⟩)] w fun e w' => e = .returned (.int .i64 (a 1 * a 2)) ∧ Below w.heap.size w w' := by
  have c1 := h.c1
  have c2 := h.c2
  obtain ⟨m1, m2⟩ := mul_small ha.b1 ha.b2
  obtain ⟨a11, a12⟩ := ha.b1
  obtain ⟨a21, a22⟩ := ha.b2
  clear ha h
  generalize a 1 = x at *
  generalize a 2 = y at *
  go_enter Tryd.func40, Tryd.ntmps40
  go_wp2_with fail
  go_region
  go_wp2_with fail
  go_ret
  exact ⟨rfl, (Below.refl _ _).drew⟩
theorem hunger_any (a : Nat → Int) (ha : WfR a) (w : World) : Calls Tryd.prog 47 #[vFlock a] w fun e w' => e = .returned (.int .i64 (a 1 * a 2)) ∧ Below w.heap.size w w' := by
  obtain ⟨m1, m2⟩ := mul_small ha.b1 ha.b2
  obtain ⟨a11, a12⟩ := ha.b1
  obtain ⟨a21, a22⟩ := ha.b2
  clear ha
  show Calls Tryd.prog 47 #[.agg #[.int .i16 (a 0), .int .i16 (a 1), .int .i16 (a 2), .int .i16 (a 3), .int .i16 (a 4), .int .i8 (a 5)]] w _
  generalize a 1 = x at *
  generalize a 2 = y at *
  go_enter Tryd.func47, Tryd.ntmps47
  go_wp2_with fail
  go_ret
  exact ⟨rfl, (Below.refl _ _).alloc (Nat.le_refl _) _⟩
theorem flk_mem {w : World} {b : Nat} {a : Nat → Int} {t : TypeId} (B : Blk w b #[.int .i16 (a 0), .int .i16 (a 1), .int .i16 (a 2), .int .i16 (a 3), .int .i16 (a 4), .int .i8 (a 5)] t) : FlkAt w b 0 a :=
  ⟨B.cell (i := 0) rfl, B.cell (i := 1) rfl, B.cell (i := 2) rfl, B.cell (i := 3) rfl, B.cell (i := 4) rfl, B.cell (i := 5) rfl⟩
theorem okFlocks_one (f : Fd) (a : Nat → Int) : okFlocks f 1 (fun _ => a) = okHunger f a := by
  unfold okFlocks okHunger
  have : allTo 1 (fun _ => flockOk f a) = flockOk f a := by
    cases h : flockOk f a with
    | true => exact allTo_iff.2 (fun _ _ => rfl)
    | false => exact allTo_false (i := 0) (by omega) rfl
  rw [this]; simp
theorem wfS_one {a : Nat → Int} (ha : WfR a) : WfS ksFlock 1 (fun _ => a) := fun i _ j hj => by
  have : j = 0 ∨ j = 1 ∨ j = 2 ∨ j = 3 ∨ j = 4 ∨ j = 5 := by simp at hj; omega
  rcases this with rfl | rfl | rfl | rfl | rfl | rfl
  · exact lit_i16 ha.b0
  · exact lit_i16 ha.b1
  · exact lit_i16 ha.b2
  · exact lit_i16 ha.b3
  · exact lit_i16 ha.b4
  · exact lit_i8 ha.b5
theorem inS_one {w : World} {b : Nat} {a : Nat → Int} {t : TypeId} (B : Blk w b #[.int .i16 (a 0), .int .i16 (a 1), .int .i16 (a 2), .int .i16 (a 3), .int .i16 (a 4), .int .i8 (a 5)] t) : InS w b 0 1 ksFlock (fun _ => a) :=
  Blk.inS (show Blk w b (scells ksFlock 1 (fun _ => a)) t from B)
end Go.Proofs.YtaioflkonpommaaDoor
