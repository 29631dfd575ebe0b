/-
  A cell's kind and seeds changed: the model's, the program's.
-/
import Derived.Test.YtaioflkonpommaaDoorCoreC
import Derived.Test.YtaioflkonpommaaDoorCoreB
import Derived.Test.YtaioflkonpommaaDoorSpotW
namespace Go.Proofs.YtaioflkonpommaaDoor
open Go Go.RowKit

theorem asked_yes {f : Fd} {c : Int} {b : Bool} (h1 : okF f = true) (h2 : isCell f c = true) (h3 : b = true) : asked f c b = 0 := by simp [asked, h1, h2, h3]
theorem ok_seeds {f : Fd} {n : Nat} (h : okF f = true) (hn : n < 100) : 0 ≤ f.S n ∧ f.S n ≤ 1000 := by
  simp only [okF, Bool.and_eq_true] at h
  have := allTo_iff.1 h.2 n hn
  simp only [cellOk, Bool.and_eq_true, inB_iff] at this
  exact this.1.1.2
theorem ok_kinds {f : Fd} {n : Nat} (h : okF f = true) (hn : n < 100) : 0 ≤ f.K n ∧ f.K n ≤ 3 := by
  simp only [okF, Bool.and_eq_true] at h
  have := allTo_iff.1 h.2 n hn
  simp only [cellOk, Bool.and_eq_true, inB_iff] at this
  exact this.1.1.1
def withKind (f : Fd) (c k : Int) : Fd := if asked f c (inB k 0 3) = 0 then turned f c.toNat k (if k = 0 then f.S c.toNat else 0) else Fd.zero
def sowCode (f : Fd) (c s : Int) : Int := if asked f c (inB s 0 1000) ≠ 0 then asked f c (inB s 0 1000) else if f.K c.toNat ≠ 0 then 4 else if inB (f.S c.toNat + s) 0 1000 = false then 3 else 0
def sowCell (f : Fd) (c s : Int) : Fd := if sowCode f c s = 0 then turned f c.toNat (f.K c.toNat) (f.S c.toNat + s) else Fd.zero
def minI (a b : Int) : Int := if a < b then a else b
def takeCode (f : Fd) (c m : Int) : Int := asked f c (decide (0 ≤ m))
def takenOf (f : Fd) (c m : Int) : Int := if takeCode f c m = 0 then minI m (f.S c.toNat) else 0
def takeField (f : Fd) (c m : Int) : Fd := if takeCode f c m = 0 then turned f c.toNat (f.K c.toNat) (f.S c.toNat - minI m (f.S c.toNat)) else Fd.zero

theorem l00Min_any (a b : Int) (w : World) : Calls Tryd.prog 68 #[.int .i64 a, .int .i64 b] w fun e w' => e = .returned (.int .i64 (minI a b)) ∧ w = w' := by
  unfold minI
  by_cases h : a < b
  · rw [if_pos h]
    go_enter Tryd.func68, Tryd.ntmps68
    go_wp2_with fail
    go_ret
    exact ⟨rfl, rfl⟩
  · rw [if_neg h]
    go_enter Tryd.func68, Tryd.ntmps68
    go_wp2_with fail
    go_ret
    exact ⟨rfl, rfl⟩
theorem minI_le {m s : Int} (hm : 0 ≤ m) (hs : 0 ≤ s) : 0 ≤ minI m s ∧ minI m s ≤ s := by
  unfold minI; split <;> omega
end Go.Proofs.YtaioflkonpommaaDoor
