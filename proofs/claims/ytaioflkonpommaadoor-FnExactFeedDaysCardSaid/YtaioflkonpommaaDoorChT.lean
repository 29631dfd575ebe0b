/-
  Which cell a flock chooses: the model's answer.
-/
import Derived.Test.YtaioflkonpommaaDoorChS
namespace Go.Proofs.YtaioflkonpommaaDoor
open Go Go.RowKit

def chCode (f : Fd) (g a : Nat → Int) : Int := if ffOk f g a then (if (mealsR f g a 100).length = 0 then 6 else 0) else 1
def chVal (f : Fd) (g a : Nat → Int) : Int := if chCode f g a = 0 then bL (a 5) (mealsR f g a 100) 0 else 0
theorem flock_taste {f : Fd} {a : Nat → Int} (h : flockOk f a = true) : 0 ≤ a 5 ∧ a 5 ≤ 2 := by
  unfold flockOk plainOk at h
  simp only [Bool.and_eq_true, inB_iff] at h
  exact h.1.2
end Go.Proofs.YtaioflkonpommaaDoor
