/-
  Entries of diaries: what they are; the model's ApplyEntry.
-/
import Derived.Test.YtgadjnddllaejaaDoorEnt
import Derived.Test.YtgadjnddllaejaaDoorTurn
import Derived.Test.YtgadjnddllaejaaDoorCoreB
import Derived.Lib.Hide
import Derived.RangeFuncOwn
namespace Go.Proofs.YtgadjnddllaejaaDoor
open Go Go.RowKit

structure WfEn (a : Nat → Int) : Prop where
  b0 : -128 ≤ a 0 ∧ a 0 ≤ 127
  b1 : -32768 ≤ a 1 ∧ a 1 ≤ 32767
  b2 : -32768 ≤ a 2 ∧ a 2 ≤ 32767
abbrev cEnt (a : Nat → Int) : Array Value := #[.int .i8 (a 0), .int .i16 (a 1), .int .i16 (a 2)]
def entOk (a : Nat → Int) : Bool := inB (a 0) 0 3 && inB (a 1) 0 99 && inB (a 2) 1 1000
theorem entOk_iff {a : Nat → Int} : entOk a = true ↔ (0 ≤ a 0 ∧ a 0 ≤ 3) ∧ (0 ≤ a 1 ∧ a 1 ≤ 99) ∧ (1 ≤ a 2 ∧ a 2 ≤ 1000) := by
  simp only [entOk, Bool.and_eq_true, inB_iff]
  constructor
  · rintro ⟨⟨h1, h2⟩, h3⟩; exact ⟨h1, h2, h3⟩
  · rintro ⟨h1, h2, h3⟩; exact ⟨⟨h1, h2⟩, h3⟩
set_option maxHeartbeats 1000000 in
theorem l07Entry_any (a : Nat → Int) (ha : WfEn a) (w : World) : Calls Tryd.prog 40 #[vEntry a] w fun e w' => e = .returned (.bool (entOk a)) ∧ Below w.heap.size w w' := by
  obtain ⟨⟨x1, x2⟩, ⟨y1, y2⟩, ⟨u1, u2⟩⟩ := ha
  unfold entOk
  obtain ⟨q1, h1⟩ : ∃ x, inB (a 0) 0 3 = x := ⟨_, rfl⟩
  obtain ⟨q2, h2⟩ : ∃ x, inB (a 1) 0 99 = x := ⟨_, rfl⟩
  obtain ⟨q3, h3⟩ : ∃ x, inB (a 2) 1 1000 = x := ⟨_, rfl⟩
  rw [h1, h2, h3]
  have H1 := Lib.hid h1
  have H2 := Lib.hid h2
  have H3 := Lib.hid h3
  clear h1 h2 h3
  cases q1 <;> cases q2
  all_goals
    go_enter Tryd.func40, Tryd.ntmps40
    go_upto_region 1 with (fail)
    obtain ⟨W, hW, M⟩ := open1 w (cEnt a) 50
    rw [hW]; clear hW
    have c0 : W.cell? ⟨w.heap.size, 0, none⟩ = some (.int .i8 (a 0)) := (M.at 0 rfl).cell (i := 0) rfl
    have c1 : W.cell? ⟨w.heap.size, 1, none⟩ = some (.int .i16 (a 1)) := (M.at 0 rfl).cell (i := 1) rfl
    have c2 : W.cell? ⟨w.heap.size, 2, none⟩ = some (.int .i16 (a 2)) := (M.at 0 rfl).cell (i := 2) rfl
    go_wp2_with (go_at_call 36; refine (l00In_any _ _ _ _).mono ?_; rintro e w' ⟨rfl, rfl⟩; first | rw [H1.out] | rw [H2.out] | rw [H3.out])
    go_ret
    exact ⟨rfl, M.below⟩
/-- The code of an entry at a field. -/
def apCode (f : Fd) (a : Nat → Int) : Int :=
  if entOk a && isCell f (a 1) then (if f.K (a 1).toNat ≠ 0 then 4 else if a 0 = 0 then (if inB (f.S (a 1).toNat + a 2) 0 1000 then 0 else 3) else if f.S (a 1).toNat < a 2 then 8 else 0) else 2
/-- The seeds behind an entry. -/
def apSeeds (f : Fd) (a : Nat → Int) : Int := if a 0 = 0 then f.S (a 1).toNat + a 2 else f.S (a 1).toNat - a 2
/-- The field behind an entry. -/
def apField (f : Fd) (a : Nat → Int) : Fd := if apCode f a = 0 then f.setS (a 1).toNat (apSeeds f a) else f
theorem ap_grown (W : World) (b i : Nat) (v : Value) : W.grownBy (W.setCell ⟨b, i, none⟩ v) (some b) :=
  ⟨rfl, rfl, rfl, (KeepsWalks.setCell W _ v).size, fun k _ hk => Below.heap_setCell _ _ _ k (fun e => hk (by rw [e]))⟩
theorem ap_below {W W' : World} (hb : Below W.heap.size W W') (row : Option Nat) : W.grownBy W' row := ⟨hb.os, hb.tape, hb.output, hb.size, fun k hk _ => hb.block k hk⟩
theorem ap_trans {A B C : World} {row : Option Nat} (h1 : A.grownBy B row) (h2 : B.grownBy C row) : A.grownBy C row :=
  ⟨h2.os.trans h1.os, h2.tape.trans h1.tape, h2.output.trans h1.output, Nat.le_trans h1.size h2.size, fun k hk hne => (h2.block k (Nat.lt_of_lt_of_le hk h1.size) hne).trans (h1.block k hk hne)⟩
theorem ap_drewN (W : World) (n : Nat) (row : Option Nat) : W.grownBy (W.drewN n) row := ⟨rfl, rfl, rfl, Nat.le_refl _, fun _ _ _ => rfl⟩
end Go.Proofs.YtgadjnddllaejaaDoor
