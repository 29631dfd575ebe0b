/-
  The kind and the seeds of a cell: the model's, the program's.
-/
import Derived.Test.YtpplakfmdjajiaaDoorChk2
namespace Go.Proofs.YtpplakfmdjajiaaDoor
open Go Go.RowKit

theorem asked_0 {f : Fd} {c : Int} {b : Bool} (h : asked f c b = 0) : okF f = true ∧ isCell f c = true ∧ b = true := by
  unfold asked at h
  cases h1 : okF f <;> cases h2 : isCell f c <;> cases b <;> simp_all
theorem cell_nat {f : Fd} {c : Int} (h : isCell f c = true) : ∃ k : Nat, k < 100 ∧ c = (k : Int) := by
  simp only [isCell, Bool.and_eq_true, inB_iff] at h
  exact ⟨c.toNat, by omega, by omega⟩

def kindAt (f : Fd) (c : Int) : Int := if asked f c true = 0 then f.K c.toNat else 0
def seedsAt (f : Fd) (c : Int) : Int := if asked f c true = 0 then f.S c.toNat else 0
end Go.Proofs.YtpplakfmdjajiaaDoor
