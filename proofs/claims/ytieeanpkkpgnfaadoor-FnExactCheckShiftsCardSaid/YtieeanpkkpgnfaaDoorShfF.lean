/-
  Shifts: the first hour with too few, in the program.
-/
import Derived.Test.YtieeanpkkpgnfaaDoorShfI
namespace Go.Proofs.YtieeanpkkpgnfaaDoor
open Go Go.RowKit

theorem above_any (x : Int) (w : World) : Calls Tryd.prog 38 #[.int .i64 x] w fun e w' => e = .returned (.bool (decide (0 < x))) ∧ w = w' := by
  go_enter Tryd.func38, Tryd.ntmps38
  go_wp2_with fail
  go_ret
  exact ⟨rfl, rfl⟩
def hourOf (o : Option Nat) : Int := match o with | some k => k | none => 0
def lackErr (A : Nat → Addr) (o : Option Nat) : Value := match o with | some _ => .nilIface | none => errVal (A 6)
set_option maxHeartbeats 1000000 in
theorem indexPos_some (n : Nat) (hn : n ≤ 2 ^ 40) (v : Nat → Int) (b c : Nat) (w : World) (I : InI w b 0 n v) :
    Calls Tryd.prog 37 #[.slice (some ⟨b, 0, none⟩) n c, .func (.func 38) #[] #[]] w fun e w' => e = .returned (.int .i64 (posOf (firstPos v n))) ∧ w = w' := by
  have HI := Lib.hid I
  clear I
  go_enter Tryd.func37, Tryd.ntmps37
  go_wp2_with fail
  go_loop [8] (fun i => ∃ k : Nat, k ≤ n ∧ i = .int .i64 k ∧ Hid (∀ i, i < k → v i ≤ 0)) (fun i => n - (intOf i).toNat)
  case atStart => exact ⟨0, by omega, rfl, Lib.hid (fun i hi => by omega)⟩
  case round =>
    obtain ⟨k, hk, rfl, hall⟩ := hrel
    by_cases hlt : k < n
    · have c0 := HI.out k hlt
      rw [Nat.zero_add] at c0
      obtain ⟨q, hq⟩ : ∃ q, decide (0 < v k) = q := ⟨_, rfl⟩
      have HQ := Lib.hid hq
      clear hq
      cases q with
      | true =>
        have hs : Hid (firstPos v n = some k) := Lib.hid (firstPos_some hlt hall.out (of_decide_eq_true HQ.out))
        go_wp2_with (go_at_call 38; refine (above_any _ _).mono ?_; rintro e w' ⟨rfl, rfl⟩; rw [HQ.out])
        go_ret
        exact ⟨by rw [hs.out]; rfl, rfl⟩
      | false =>
        go_wp2_with (go_at_call 38; refine (above_any _ _).mono ?_; rintro e w' ⟨rfl, rfl⟩; rw [HQ.out])
        go_round
        case rel => exact ⟨k + 1, by omega, by go_num, Lib.hid (upto_succ hall.out (by have := of_decide_eq_false HQ.out; omega))⟩
        case measure => simp [intOf]; omega
    · obtain rfl : k = n := by omega
      have hs : Hid (firstPos v k = none) := Lib.hid (firstPos_none.2 hall.out)
      go_wp2_with fail
      go_ret
      exact ⟨by rw [hs.out]; rfl, rfl⟩
theorem indexPos_nil (v : Nat → Int) (p : Option Addr) (c : Nat) (w : World) :
    Calls Tryd.prog 37 #[.slice p 0 c, .func (.func 38) #[] #[]] w fun e w' => e = .returned (.int .i64 (posOf (firstPos v 0))) ∧ w = w' := by
  go_enter Tryd.func37, Tryd.ntmps37
  go_wp2_with fail
  refine wp_loop_rounds 1 ?_
  rw [rounds_succ]
  go_wp2_with fail
  go_ret
  exact ⟨rfl, rfl⟩
theorem indexPos_any (n : Nat) (hn : n ≤ 2 ^ 40) (v : Nat → Int) (p : Option Addr) (c : Nat) (w : World) (I : InO w p n v) :
    Calls Tryd.prog 37 #[.slice p n c, .func (.func 38) #[] #[]] w fun e w' => e = .returned (.int .i64 (posOf (firstPos v n))) ∧ w = w' := by
  rcases I with rfl | ⟨b, rfl, I⟩
  · exact indexPos_nil v p c w
  · exact indexPos_some n hn v b c w I
set_option maxHeartbeats 1000000 in
theorem firstShort_any (n : Nat) (hn : n ≤ 2 ^ 40) (v : Nat → Int) (p : Option Addr) (c : Nat) (A : Nat → Addr) (w : World) (I : InO w p n v) (S0 : Sents w A) :
    Calls Tryd.prog 25 #[.slice p n c] w fun e w' => e = .returned (.tuple #[.int .i64 (hourOf (firstPos v n)), lackErr A (firstPos v n)]) ∧ Below w.heap.size w w' := by
  have S : Hid (Sents w A) := Lib.hid S0
  clear S0
  obtain ⟨o, ho⟩ : ∃ o, firstPos v n = o := ⟨_, rfl⟩
  have HO := Lib.hid ho
  rw [ho]
  clear ho
  have ik : ∀ k, o = some k → k < n := fun k hk => (firstPos_spec (HO.out.trans hk)).1
  cases o with
  | some k =>
    have hk := ik k rfl
    clear ik
    go_enter Tryd.func25, Tryd.ntmps25
    go_wp2_with (go_at_call 37; refine (indexPos_any n hn v p c _ I).mono ?_; rintro e w' ⟨rfl, rfl⟩; rw [HO.out, show posOf (some k) = (k : Int) from rfl])
    go_ret2
    exact ⟨rfl, Below.refl _ _⟩
  | none =>
    clear ik
    have v6 := S.out.v6
    go_enter Tryd.func25, Tryd.ntmps25
    go_wp2_with (go_at_call 37; refine (indexPos_any n hn v p c _ I).mono ?_; rintro e w' ⟨rfl, rfl⟩; rw [HO.out, show posOf none = (-1 : Int) from rfl])
    go_quiet (fail)
    go_wp2_with fail
    go_ret2
    exact ⟨rfl, below_drewN _ (Below.refl _ _)⟩
end Go.Proofs.YtieeanpkkpgnfaaDoor
