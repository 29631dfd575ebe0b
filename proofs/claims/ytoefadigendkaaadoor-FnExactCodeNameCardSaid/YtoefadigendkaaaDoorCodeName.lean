/-
  The names of the error codes: the model's, the program's.
-/
import Derived.Test.YtoefadigendkaaaDoorCard
import Derived.Test.YtoefadigendkaaaDoorSpec0
import Derived.Deep.RegionWith
import Derived.Outline
import Derived.OwnWalk
namespace Go.Proofs.YtoefadigendkaaaDoor
open Go Go.RowKit

/-- The name of a code. -/
def codeName (c : Int) : ByteArray := if c = 0 then ⟨#[111, 107]⟩ else if c < 0 ∨ 8 < c then ⟨#[]⟩ else ⟨(sentNames.getD (c.toNat - 1) ("", [])).2.toArray⟩

set_option maxHeartbeats 8000000 in
theorem specCodeName (c : Int) (w : World) : Calls Tryd.prog 10 #[.int .i64 c] w fun e w' => e = .returned (.string (codeName c)) ∧ Below w.heap.size w w' := by
  cases h : inB c 0 8 with
  | false =>
    have hr : codeName c = ⟨#[]⟩ := by
      have : ¬ (0 ≤ c ∧ c ≤ 8) := fun h' => by rw [inB_iff.2 h'] at h; cases h
      unfold codeName; rw [if_neg (by omega), if_pos (by omega)]
    rw [hr]; clear hr
    go_enter Tryd.func10, Tryd.ntmps10
    go_wp2_with (go_at_call 31; refine (l00In_any _ _ _ _).mono ?_; rintro e w' ⟨rfl, rfl⟩)
    go_ret
    exact ⟨rfl, (Below.refl _ _).alloc (Nat.le_refl _) _⟩
  | true =>
    obtain ⟨h1, h2⟩ := inB_iff.1 h
    have hk : c = 0 ∨ c = 1 ∨ c = 2 ∨ c = 3 ∨ c = 4 ∨ c = 5 ∨ c = 6 ∨ c = 7 ∨ c = 8 := by omega
    clear h1 h2
    rcases hk with rfl | rfl | rfl | rfl | rfl | rfl | rfl | rfl | rfl
    all_goals
      go_enter Tryd.func10, Tryd.ntmps10
      go_wp2_with (go_at_call 31; refine (l00In_any _ _ _ _).mono ?_; rintro e w' ⟨rfl, rfl⟩)
      go_ret
      exact ⟨rfl, (Below.refl _ _).alloc (Nat.le_refl _) _⟩

theorem methodError (a : Addr) (w : World) : (Go.method 288 151 (.pointer (some a)) "Error").run Tryd.prog w = .ok (133, .pointer (some a)) w := by kernel_rfl
theorem nilAheadError (a : Addr) (w : World) : (nilAhead 288 151 (.pointer (some a)) "Error").run Tryd.prog w = .ok (some false) w := by kernel_rfl
theorem errorOf_none (c : Int) (h : c < 1 ∨ 8 < c) (w : World) : Calls Tryd.prog 32 #[.int .i64 c] w fun e w' => e = .returned .nilIface ∧ w = w' := by
  have q1 : (c == 1) = false := by simp; omega
  have q2 : (c == 2) = false := by simp; omega
  have q3 : (c == 3) = false := by simp; omega
  have q4 : (c == 4) = false := by simp; omega
  have q5 : (c == 5) = false := by simp; omega
  have q6 : (c == 6) = false := by simp; omega
  have q7 : (c == 7) = false := by simp; omega
  have q8 : (c == 8) = false := by simp; omega
  clear h
  go_enter Tryd.func32, Tryd.ntmps32
  go_wp2
  go_ret
  exact ⟨rfl, rfl⟩
theorem errText (a : Addr) (s : ByteArray) (w : World) (h : w.cell? a = some (.string s)) : Calls Tryd.prog 133 #[.pointer (some a)] w fun e w' => e = .returned (.string s) ∧ w = w' := by
  go_enter Tryd.func133, Tryd.ntmps133
  go_wp2
  go_ret
  exact ⟨rfl, rfl⟩
theorem codeName_sent (k : Nat) (x : String × List UInt8) (h : sentNames[k]? = some x) : codeName ((k : Int) + 1) = ⟨x.2.toArray⟩ := by
  have hk : k < sentNames.length := (List.getElem?_eq_some_iff.1 h).1
  have hk8 : k < 8 := hk
  unfold codeName
  rw [if_neg (by omega), if_neg (by omega), show ((k : Int) + 1).toNat - 1 = k by omega, List.getD_eq_getElem?_getD, h]
  rfl
set_option maxHeartbeats 2000000 in
theorem implCodeName (c : Int) (A : Nat → Addr) (w : World) (SV : SentVars w A) : Calls Tryd.prog 11 #[.int .i64 c] w fun e w' => e = .returned (.string (codeName c)) ∧ w = w' := by
  have hif := isIfaceErr
  by_cases h0 : c = 0
  · subst h0
    go_enter Tryd.func11, Tryd.ntmps11
    go_wp2
    go_ret
    exact ⟨rfl, rfl⟩
  · have q0 : (c == 0) = false := by simpa using h0
    by_cases hr : 1 ≤ c ∧ c ≤ 8
    · obtain ⟨k, hk, rfl⟩ : ∃ k : Nat, k < 8 ∧ c = ((k : Int) + 1) := ⟨(c - 1).toNat, by omega, by omega⟩
      have hx : sentNames[k]? = some (sentNames[k]'(by show k < 8; omega)) := List.getElem?_eq_getElem _
      have hc := SV.text k _ hx
      rw [codeName_sent k _ hx]
      generalize (⟨(sentNames[k]'(by show k < 8; omega)).2.toArray⟩ : ByteArray) = s at hc
      have S : Hid (Sents w A) := Lib.hid SV.sents
      have hme := methodError
      have hna := nilAheadError
      clear hr hx SV h0
      obtain ⟨n, hn1, hn8, e1, e2⟩ : ∃ n : Nat, 1 ≤ n ∧ n ≤ 8 ∧ ((k : Int) + 1) = (n : Int) ∧ k + 1 = n := ⟨k + 1, by omega, by omega, by omega, rfl⟩
      rw [e1] at q0 ⊢
      rw [e2] at hc
      clear e1 e2 hk
      go_enter Tryd.func11, Tryd.ntmps11
      go_wp2_with (first
        | (go_at_call 32; refine (errorOf_any A n hn1 hn8 _ S.out).mono ?_; rintro e w' ⟨rfl, rfl⟩)
        | (go_at_call 133; refine (errText _ _ _ hc).mono ?_; rintro e w' ⟨rfl, rfl⟩))
      go_ret
      exact ⟨rfl, rfl⟩
    · have hn : codeName c = ⟨#[]⟩ := by unfold codeName; rw [if_neg h0, if_pos (by omega)]
      rw [hn]; clear hn h0
      go_enter Tryd.func11, Tryd.ntmps11
      go_wp2_with (first
        | (go_at_call 32; refine (errorOf_none c (by omega) _).mono ?_; rintro e w' ⟨rfl, rfl⟩))
      go_ret
      exact ⟨rfl, rfl⟩
end Go.Proofs.YtoefadigendkaaaDoor
