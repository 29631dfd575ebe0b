/-
  MoveFlock: the model's and the program's.
-/
import Derived.Test.YtaioflkonpommaaDoorLstM
import Derived.Test.YtaioflkonpommaaDoorChkB
import Derived.Test.YtaioflkonpommaaDoorCoreC
namespace Go.Proofs.YtaioflkonpommaaDoor
open Go Go.RowKit

def setAtF (F : Nat → Nat → Int) (i j : Nat) (v : Int) : Nat → Nat → Int := fun p q => if p = i ∧ q = j then v else F p q
theorem Mem.oneF {w w' : World} {b : Nat} {cs : Array Value} {t : TypeId} (hb : Below w.heap.size w w') (hlo : w.heap.size ≤ b) (B : Blk w' b cs t) : Mem w w' [⟨b, cs, t⟩] := by
  refine ⟨hb, ?_, ?_⟩
  · intro i e h
    cases i with
    | zero => cases h; exact ⟨hlo, B⟩
    | succ i => cases h
  · intro i j e e' h h' hne
    cases i with
    | zero =>
      cases j with
      | zero => exact absurd rfl hne
      | succ j => cases h'
    | succ i => cases h
theorem cell_inF {f : Fd} {c : Int} (h : isCell f c = true) : 0 ≤ c ∧ c ≤ 99 := by
  obtain ⟨k, hk, rfl⟩ := cell_nat h
  omega
/-- What the rows hold. -/
def RowsF (F : Nat → Nat → Int) (n : Nat) (cs : Array Value) : Prop := n * 6 ≤ cs.size ∧ ∀ i, i < n → ∀ j, j < 6 → cs[i * 6 + j]? = some (sget ksFlock F i j)
theorem RowsF.put {F : Nat → Nat → Int} {n : Nat} {cs : Array Value} (h : RowsF F n cs) {i j : Nat} (hi : i < n) (hj : j < 6) (v : Int) : RowsF (setAtF F i j v) n (cs.setIfInBounds (i * 6 + j) (.int (ksFlock.getD j .i64) v)) := by
  refine ⟨by rw [Array.size_setIfInBounds]; exact h.1, fun p hp q hq => ?_⟩
  rw [Array.getElem?_setIfInBounds]
  by_cases e : i * 6 + j = p * 6 + q
  · obtain ⟨rfl, rfl⟩ : i = p ∧ j = q := by omega
    have := h.1
    rw [if_pos rfl, if_pos (by omega)]
    unfold sget setAtF
    rw [if_pos ⟨rfl, rfl⟩]
  · rw [if_neg e, h.2 p hp q hq]
    unfold sget setAtF
    rw [if_neg (by rintro ⟨rfl, rfl⟩; exact e rfl)]
theorem RowsF.start {F : Nat → Nat → Int} {n : Nat} {cs : Array Value} (h1 : n * ksFlock.length ≤ cs.size) (h2 : ∀ i, i < n → ∀ j, j < ksFlock.length → cs[i * ksFlock.length + j]? = some (sget ksFlock F i j)) : RowsF F n cs := ⟨h1, h2⟩
theorem RowsF.so {F : Nat → Nat → Int} {n : Nat} {cs : Array Value} (h : RowsF F n cs) {lo b : Nat} {w : World} {t : TypeId} (hlo : lo ≤ b) (B : Blk w b cs t) : SO ksFlock t lo w (some ⟨b, 0, none⟩) n F :=
  .inr ⟨b, cs, rfl, hlo, h.1, B, h.2⟩
/-- The flocks, one with another tree. -/
def mfRow (F : Nat → Nat → Int) (i c : Int) : Nat → Nat → Int := setAtF F i.toNat 0 c
def idxCode (f : Fd) (n : Nat) (F : Nat → Nat → Int) (i : Int) : Int := if okFlocks f n F then (if inB i 0 ((n : Int) - 1) then 0 else 2) else 1
theorem idx_cases (f : Fd) (n : Nat) (F : Nat → Nat → Int) (i : Int) : (idxCode f n F i = 0 ∧ okFlocks f n F = true ∧ inB i 0 ((n : Int) - 1) = true) ∨ (idxCode f n F i = 1 ∧ okFlocks f n F = false) ∨ (idxCode f n F i = 2 ∧ okFlocks f n F = true ∧ inB i 0 ((n : Int) - 1) = false) := by
  unfold idxCode
  cases h : okFlocks f n F with
  | false => exact .inr (.inl ⟨rfl, rfl⟩)
  | true =>
    cases h2 : inB i 0 ((n : Int) - 1) with
    | false => exact .inr (.inr ⟨rfl, rfl, rfl⟩)
    | true => exact .inl ⟨rfl, rfl, rfl⟩
def mfCode (f : Fd) (n : Nat) (F : Nat → Nat → Int) (i c : Int) : Int := if idxCode f n F i = 0 then (if isCell f c then (if treeAt f c then 0 else 4) else 2) else idxCode f n F i
def mfN (f : Fd) (n : Nat) (F : Nat → Nat → Int) (i c : Int) : Nat := if mfCode f n F i c = 0 then n else 0
theorem mfN_le (f : Fd) (n : Nat) (F : Nat → Nat → Int) (i c : Int) (hn : n ≤ 2 ^ 40) : mfN f n F i c ≤ 2 ^ 40 := by unfold mfN; split <;> omega
/-- The error of a code. -/
def errF (A : Nat → Addr) (code : Int) : Value := if code = 0 then .nilIface else errVal (A code.toNat)
theorem errF_nat (A : Nat → Addr) (k : Nat) (h : 1 ≤ k) : errF A (k : Int) = errVal (A k) := by unfold errF; rw [if_neg (by omega), Int.toNat_natCast]
theorem okF_flocks {f : Fd} {n : Nat} {F : Nat → Nat → Int} (h : okFlocks f n F = true) : okF f = true := by
  simp only [okFlocks, Bool.and_eq_true] at h; exact h.1.1
theorem hasFlock_any (n : Nat) (hn : n ≤ 2 ^ 40) (i : Int) (p : Option Addr) (c : Nat) (w : World) :
    Calls Tryd.prog 80 #[.slice p n c, .int .i64 i] w fun e w' => e = .returned (.bool (inB i 0 ((n : Int) - 1))) ∧ w = w' := by
  have e : inB i 0 ((n : Int) - 1) = (decide (0 ≤ i) && decide (i < (n : Int))) := by
    rw [Bool.eq_iff_iff, inB_iff, Bool.and_eq_true, decide_eq_true_eq, decide_eq_true_eq]; omega
  rw [e]
  by_cases h1 : 0 ≤ i
  · rw [decide_eq_true h1, Bool.true_and]
    go_enter Tryd.func80, Tryd.ntmps80
    go_wp2_with fail
    all_goals go_ret
    all_goals exact ⟨by simp_all, rfl⟩
  · rw [decide_eq_false h1, Bool.false_and]
    go_enter Tryd.func80, Tryd.ntmps80
    go_wp2_with fail
    all_goals go_ret
    all_goals exact ⟨by simp_all, rfl⟩
end Go.Proofs.YtaioflkonpommaaDoor
