/-
  CoveredBy, CellsUnder, EdgeOf: the model's, the program's.
  CellsUnder, EdgeOf of one net: the model's, the program's.
-/
import Derived.Test.YtniibbgcdaijfaaDoorNetH
import Derived.Test.YtniibbgcdaijfaaDoorRow
namespace Go.Proofs.YtniibbgcdaijfaaDoor
section
open Go Go.RowKit

/-- What is answered where the code is not OK. -/
def ans (code : Int) (g : Nat → Int) : Nat → Int := if code = 0 then g else fun _ => 0
theorem ans_0 (g : Nat → Int) : ans 0 g = g := rfl
theorem ans_1 (g : Nat → Int) : ans 1 g = fun _ => 0 := rfl
theorem ans_3 (g : Nat → Int) : ans 3 g = fun _ => 0 := rfl
theorem code_three (f : Fd) (n : Nat) (F : Nat → Nat → Int) : netsCode f n F = 0 ∨ netsCode f n F = 1 ∨ netsCode f n F = 3 := by
  unfold netsCode
  split
  · split
    · exact .inr (.inr rfl)
    · exact .inl rfl
  · exact .inr (.inl rfl)
theorem netsCode_one (f : Fd) (a : Nat → Int) : netsCode f 1 (fun _ => a) = if okF f && netOk f a then 0 else 1 := by
  unfold netsCode netsOk
  have e : allTo 1 (fun _ => netOk f a) = netOk f a := by simp [allTo]
  rw [e, if_neg (show ¬ 20 < 1 by omega)]
theorem cov_one (a : Nat → Int) : acells .u64 2 (cov (fun _ => a) 1) = acells .u64 2 (undA a) := acells_congr (fun i _ => by
  obtain ⟨z, ez, hz⟩ := nat_of (undA_N100 a).1 i
  show bits .or .u64 0 (undA a i) = undA a i
  rw [ez]
  have h := bits_or_u64_nat 0 z (by omega) hz
  rw [Nat.zero_or] at h
  exact h)
theorem row_inS {w : World} {b : Nat} {a : Nat → Int} {t : TypeId} (B : Blk w b #[.int .i8 (a 0), .int .i8 (a 1), .int .i8 (a 2), .int .i8 (a 3)] t) : InS w b 0 1 ksNet (fun _ => a) := fun i hi => by
  obtain rfl : i = 0 := by omega
  exact B.whole

end
section
open Go Go.RowKit

def netCode (f : Fd) (a : Nat → Int) : Int := if okF f && netOk f a then 0 else 1
theorem netCode_yes {f : Fd} {a : Nat → Int} (h : (okF f && netOk f a) = true) : netCode f a = 0 := by unfold netCode; rw [h]; rfl
theorem netCode_no {f : Fd} {a : Nat → Int} (h : (okF f && netOk f a) = false) : netCode f a = 1 := by unfold netCode; rw [h]; rfl
theorem netsCode_net (f : Fd) (a : Nat → Int) : netsCode f 1 (fun _ => a) = netCode f a := netsCode_one f a
theorem edge_i64 {a : Nat → Int} (ha : WfN a) : -512 ≤ 2 * (a 2 + a 3) ∧ 2 * (a 2 + a 3) ≤ 508 := by
  obtain ⟨_, _, h2, h3⟩ := ha
  omega
def edgeOf (f : Fd) (a : Nat → Int) : Int := if okF f && netOk f a then 2 * (a 2 + a 3) else 0
theorem edge_yes {f : Fd} {a : Nat → Int} (h : (okF f && netOk f a) = true) : edgeOf f a = 2 * (a 2 + a 3) := by unfold edgeOf; rw [h]; rfl
theorem edge_no {f : Fd} {a : Nat → Int} (h : (okF f && netOk f a) = false) : edgeOf f a = 0 := by unfold edgeOf; rw [h]; rfl
end
end Go.Proofs.YtniibbgcdaijfaaDoor
