/-
  The model's small tests on numbers, cells and fields.
-/
import Derived.Test.YtmiafnmenolemaaDoorFld
import Derived.Test.YtmiafnmenolemaaDoorSpec0
import Derived.Deep.DeepCutAuto
namespace Go.Proofs.YtmiafnmenolemaaDoor
open Go Go.RowKit

theorem l01Seeds_any (n : Int) (w : World) : Calls Tryd.prog 60 #[.int .i64 n] w fun e w' => e = .returned (.bool (inB n 0 1000)) ∧ w = w' := by
  go_enter Tryd.func60, Tryd.ntmps60
  go_wp2_with (go_at_call 38; refine (l00In_any _ _ _ _).mono ?_; rintro e w' ⟨rfl, rfl⟩)
  go_ret
  exact ⟨rfl, rfl⟩

/-- Is the number a cell of the field? -/
def isCell (f : Fd) (c : Int) : Bool := inB c 0 99 && decide (c % 10 < f.W) && decide (c / 10 < f.H)
/-- Is what a number has as in a valid field? -/
def cellOk (f : Fd) (i : Nat) : Bool := inB (f.K i) 0 3 && inB (f.S i) 0 1000 && (f.K i == 0 || f.S i == 0) && (isCell f i || (f.K i == 0 && f.S i == 0))
/-- Is the field valid? -/
def okF (f : Fd) : Bool := inB f.W 1 10 && inB f.H 1 10 && allTo 100 (cellOk f)

/-- The code of a field, a cell, and whether another number is as told. -/
def asked (f : Fd) (c : Int) (fine : Bool) : Int := if okF f = false then 1 else if isCell f c = false ∨ fine = false then 2 else 0
end Go.Proofs.YtmiafnmenolemaaDoor
