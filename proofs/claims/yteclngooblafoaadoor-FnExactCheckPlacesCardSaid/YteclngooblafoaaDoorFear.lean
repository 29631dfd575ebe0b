/-
  The fear of a cell: what it is; the model's.
-/
import Derived.Test.YteclngooblafoaaDoorScrOk
import Derived.Test.YteclngooblafoaaDoorSquare
import Derived.Deep.QuietTactic
import Derived.Lib.Hide
namespace Go.Proofs.YteclngooblafoaaDoor
open Go Go.RowKit

/-- What a scarecrow counts. -/
def cntA (a : Nat → Int) : Int := a 1 / 2 ^ (a 2 / 3).toNat
/-- The fear of one scarecrow in a cell. -/
def fearA (a : Nat → Int) (c : Int) : Int := cntA a / (1 + sq (a 0) c)
/-- The greatest fear of the first scarecrows. -/
def fearTo (F : Nat → Nat → Int) (c : Int) : Nat → Int
  | 0 => 0
  | n + 1 => max (fearTo F c n) (fearA (F n) c)
theorem cnt_in {a : Nat → Int} (h : shapeOk a = true) : 0 ≤ cntA a ∧ cntA a ≤ 1000 := by
  simp only [shapeOk, Bool.and_eq_true, inB_iff] at h
  obtain ⟨⟨-, h1, h2⟩, -⟩ := h
  have hp : (0 : Int) < 2 ^ (a 2 / 3).toNat := Int.pow_pos (by omega)
  exact ⟨Int.ediv_nonneg (by omega) (by omega), Int.le_trans (Int.ediv_le_self _ (by omega)) h2⟩
theorem sq_in {a b : Int} (ha : 0 ≤ a ∧ a ≤ 99) (hb : 0 ≤ b ∧ b ≤ 99) : 0 ≤ sq a b ∧ sq a b ≤ 162 := by
  obtain ⟨h1, h2⟩ := sq_part (x := a % 10 - b % 10) (by omega) (by omega)
  obtain ⟨h3, h4⟩ := sq_part (x := a / 10 - b / 10) (by omega) (by omega)
  unfold sq; omega
theorem fear_in {a : Nat → Int} {c : Int} (h : shapeOk a = true) (hc : 0 ≤ c ∧ c ≤ 99) : 0 ≤ fearA a c ∧ fearA a c ≤ 1000 := by
  obtain ⟨h1, h2⟩ := cnt_in h
  simp only [shapeOk, Bool.and_eq_true, inB_iff] at h
  obtain ⟨h3, h4⟩ := sq_in h.1.1 hc
  exact ⟨Int.ediv_nonneg h1 (by omega), Int.le_trans (Int.ediv_le_self _ h1) h2⟩
theorem fearTo_in {F : Nat → Nat → Int} {c : Int} (hc : 0 ≤ c ∧ c ≤ 99) : ∀ {n : Nat}, (∀ i, i < n → shapeOk (F i) = true) → 0 ≤ fearTo F c n ∧ fearTo F c n ≤ 1000
  | 0, _ => by simp [fearTo]
  | n + 1, h => by
    have ih := fearTo_in (n := n) hc (fun i hi => h i (by omega))
    have h2 := fear_in (h n (by omega)) hc
    unfold fearTo; omega
theorem l00Max_any (a b : Int) (w : World) : Calls Tryd.prog 76 #[.int .i64 a, .int .i64 b] w fun e w' => e = .returned (.int .i64 (max a b)) ∧ w = w' := by
  by_cases h : b < a
  · rw [show max a b = a by omega]
    go_enter Tryd.func76, Tryd.ntmps76
    go_wp2_with fail
    go_ret
    exact ⟨rfl, rfl⟩
  · rw [show max a b = b by omega]
    have h2 : a ≤ b := by omega
    go_enter Tryd.func76, Tryd.ntmps76
    go_wp2_with fail
    go_ret
    exact ⟨rfl, rfl⟩
theorem shift_u (m : Fin 31) : min (IntKind.u64.wrap (IntKind.i8.wrap (((m.val : Nat) : Int).tdiv 3))).toNat 64 = (((m.val : Nat) : Int) / 3).toNat := by revert m; decide +kernel
theorem shift_i (m : Fin 31) : min (IntKind.i8.wrap (((m.val : Nat) : Int).tdiv 3)).toNat 64 = (((m.val : Nat) : Int) / 3).toNat ∧ 0 ≤ IntKind.i8.wrap (((m.val : Nat) : Int).tdiv 3) := by revert m; decide +kernel
theorem shape_age {a : Nat → Int} (h : shapeOk a = true) : ∃ m : Fin 31, a 2 = ((m.val : Nat) : Int) := by
  simp only [shapeOk, Bool.and_eq_true, inB_iff] at h
  exact ⟨⟨(a 2).toNat, by omega⟩, by simp; omega⟩
theorem shape_w {a : Nat → Int} (h : shapeOk a = true) : wrap64 (a 1) = a 1 := by
  simp only [shapeOk, Bool.and_eq_true, inB_iff] at h
  unfold wrap64; omega
set_option maxRecDepth 100000 in
theorem l03Counts_any (a : Nat → Int) (_ha : WfT a) (h : shapeOk a = true) (w : World) : Calls Tryd.prog 77 #[vScarecrow a] w fun e w' => e = .returned (.int .i64 (cntA a)) ∧ Below w.heap.size w w' := by
  obtain ⟨m, hm⟩ := shape_age h
  have e1 := shift_u m
  rw [← hm] at e1
  have hv : wrap64 (a 1) / 2 ^ min (IntKind.u64.wrap (IntKind.i8.wrap ((a 2).tdiv 3))).toNat 64 = cntA a := by rw [e1, shape_w h]; rfl
  have HV := Lib.hid hv
  clear hv e1 hm
  go_enter Tryd.func77, Tryd.ntmps77
  go_wp2_with fail
  rw [HV.out]
  go_ret
  exact ⟨rfl, (Below.refl _ _).alloc (Nat.le_refl _) _⟩
set_option maxRecDepth 100000 in
theorem counts_any (a : Nat → Int) (_ha : WfT a) (h : shapeOk a = true) (w : World) : Calls Tryd.prog 94 #[vScarecrow a] w fun e w' => e = .returned (.int .i64 (cntA a)) ∧ Below w.heap.size w w' := by
  obtain ⟨m, hm⟩ := shape_age h
  obtain ⟨e1, e2⟩ := shift_i m
  rw [← hm] at e1 e2
  have hv : wrap64 (a 1) / 2 ^ min (IntKind.i8.wrap ((a 2).tdiv 3)).toNat 64 = cntA a := by rw [e1, shape_w h]; rfl
  have HV := Lib.hid hv
  have e3 : ¬ (IntKind.i8.wrap ((a 2).tdiv 3) < 0) := by omega
  clear hv e1 hm
  go_enter Tryd.func94, Tryd.ntmps94
  go_wp2_with fail
  rw [HV.out]
  go_ret
  exact ⟨rfl, (Below.refl _ _).alloc (Nat.le_refl _) _⟩
end Go.Proofs.YteclngooblafoaaDoor
