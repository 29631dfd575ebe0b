/-
  RingOf: the model's, the program's.
-/
import Derived.Test.YtfchbdbfokpcdaaDoorWhere
import Derived.Test.YtfchbdbfokpcdaaDoorSquare
import Derived.Deep.QuietTactic
import Derived.Test.YtfchbdbfokpcdaaDoorRegM
namespace Go.Proofs.YtfchbdbfokpcdaaDoor
open Go Go.RowKit

def ringQ (c : Nat) (s : Int) (k : Nat) : Bool := decide (sq c k ≤ s)
def ringCode (f : Fd) (c s : Int) : Int := asked f c (inB s 0 200)
def ringOf (f : Fd) (c s : Int) : Nat → Int := if ringCode f c s = 0 then wantSet f (ringQ c.toNat s) 100 else fun _ => 0
theorem asked_no {f : Fd} {c : Int} {b : Bool} (h : asked f c b = 0) : okF f = true ∧ isCell f c = true ∧ b = true := asked_0 h
theorem load_i64 (b off : Nat) (n : Int) (w : World) (c : w.cell? ⟨b, off, none⟩ = some (.int .i64 n)) : (Instr.loadAt 2 (.pointer (some ⟨b, off, none⟩))).run Tryd.prog w = .ok (.int .i64 n) w := by
  simp [go_sem, c]
end Go.Proofs.YtfchbdbfokpcdaaDoor
