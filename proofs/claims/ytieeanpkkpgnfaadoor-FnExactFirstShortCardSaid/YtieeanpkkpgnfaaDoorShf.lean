/-
  Shifts: what is told of needs, a length and starts; the model's helpers.
-/
import Derived.Test.YtieeanpkkpgnfaaDoorSpec0
import Derived.Test.YtieeanpkkpgnfaaDoorInts
import Derived.Lib.Hide
import Derived.Outline
import Derived.Deep.QuietTactic
namespace Go.Proofs.YtieeanpkkpgnfaaDoor
open Go Go.RowKit

def needOk (g : Nat → Int) (n : Nat) : Bool := allTo n (fun i => inB (g i) 0 20)
def startOk (h : Nat → Int) (m : Nat) (n : Int) : Bool := allTo m (fun i => inB (h i) 0 (n - 1))
def headOk (n : Nat) (L : Int) : Bool := decide ((n : Int) ≤ 48) && inB L 1 48
def shOk (g : Nat → Int) (n : Nat) (L : Int) (h : Nat → Int) (m : Nat) : Bool := headOk n L && needOk g n && startOk h m n
def shCode (b : Bool) : Int := if b then 0 else 2
theorem needOk_succ {g : Nat → Int} {k : Nat} : needOk g (k + 1) = (needOk g k && inB (g k) 0 20) := by
  rw [Bool.eq_iff_iff]; simp only [needOk, Bool.and_eq_true, allTo_iff]
  exact ⟨fun h => ⟨fun i hi => h i (by omega), h k (by omega)⟩, fun h => upto_succ h.1 h.2⟩
theorem startOk_succ {h : Nat → Int} {n : Int} {k : Nat} : startOk h (k + 1) n = (startOk h k n && inB (h k) 0 (n - 1)) := by
  rw [Bool.eq_iff_iff]; simp only [startOk, Bool.and_eq_true, allTo_iff]
  exact ⟨fun h => ⟨fun i hi => h i (by omega), h k (by omega)⟩, fun h => upto_succ h.1 h.2⟩
theorem needOk_zero (g : Nat → Int) : needOk g 0 = true := by simp [needOk, allTo]
theorem startOk_zero (g : Nat → Int) (n : Int) : startOk g 0 n = true := by simp [startOk, allTo]
theorem shOk_iff {g : Nat → Int} {n : Nat} {L : Int} {h : Nat → Int} {m : Nat} : shOk g n L h m = true ↔ (n ≤ 48 ∧ 1 ≤ L ∧ L ≤ 48) ∧ (∀ i, i < n → 0 ≤ g i ∧ g i ≤ 20) ∧ (∀ i, i < m → 0 ≤ h i ∧ h i ≤ (n : Int) - 1) := by
  simp only [shOk, headOk, needOk, startOk, Bool.and_eq_true, allTo_iff, inB_iff, decide_eq_true_eq]
  constructor
  · rintro ⟨⟨⟨a, b⟩, c⟩, d⟩; exact ⟨⟨by omega, b⟩, c, d⟩
  · rintro ⟨⟨a, b⟩, c, d⟩; exact ⟨⟨⟨by omega, b⟩, c⟩, d⟩
def helpB (L x hour : Int) : Bool := decide (x ≤ hour) && decide (hour < x + L)
def there (L : Int) (h : Nat → Int) (hour : Int) : Nat → Int
  | 0 => 0
  | i + 1 => there L h hour i + (if helpB L (h i) hour then 1 else 0)
theorem there_in (L : Int) (h : Nat → Int) (hour : Int) : ∀ m : Nat, 0 ≤ there L h hour m ∧ there L h hour m ≤ m
  | 0 => by simp [there]
  | m + 1 => by
    have ih := there_in L h hour m
    unfold there
    split <;> omega
theorem there_yes {L : Int} {h : Nat → Int} {hour : Int} {k : Nat} (h1 : h k ≤ hour) (h2 : hour < h k + L) : there L h hour (k + 1) = there L h hour k + 1 := by
  rw [there, if_pos (by simp [helpB, h1, h2])]
theorem there_no {L : Int} {h : Nat → Int} {hour : Int} {k : Nat} (hn : ¬ (h k ≤ hour ∧ hour < h k + L)) : there L h hour (k + 1) = there L h hour k := by
  rw [there, if_neg (by simp [helpB]; omega), Int.add_zero]
/-- The first place below n at which there is more than 0. -/
def firstPos (v : Nat → Int) : Nat → Option Nat
  | 0 => none
  | n + 1 => (firstPos v n).or (if 0 < v n then some n else none)
theorem firstPos_none {v : Nat → Int} : ∀ {n : Nat}, firstPos v n = none ↔ ∀ i, i < n → v i ≤ 0
  | 0 => by simp [firstPos]
  | n + 1 => by
    have ih := firstPos_none (v := v) (n := n)
    rw [firstPos]
    constructor
    · intro h i hi
      rw [Option.or_eq_none_iff] at h
      by_cases e : i = n
      · subst e; by_cases hv : 0 < v i
        · rw [if_pos hv] at h; simp at h
        · omega
      · exact ih.1 h.1 i (by omega)
    · intro h
      rw [ih.2 (fun i hi => h i (by omega)), if_neg (by have := h n (by omega); omega)]; rfl
theorem firstPos_some {v : Nat → Int} {n k : Nat} (hk : k < n) (h0 : ∀ i, i < k → v i ≤ 0) (h1 : 0 < v k) : firstPos v n = some k := by
  induction n with
  | zero => omega
  | succ n ih =>
    rw [firstPos]
    by_cases e : k = n
    · subst e; rw [firstPos_none.2 h0, if_pos h1]; rfl
    · rw [ih (by omega)]; rfl
theorem firstPos_spec {v : Nat → Int} : ∀ {n k : Nat}, firstPos v n = some k → k < n ∧ 0 < v k ∧ ∀ i, i < k → v i ≤ 0
  | 0, k, h => by simp [firstPos] at h
  | n + 1, k, h => by
    rw [firstPos] at h
    cases hf : firstPos v n with
    | some j =>
      rw [hf] at h
      have e : j = k := by simpa using h
      subst e
      have := firstPos_spec hf
      exact ⟨by omega, this.2⟩
    | none =>
      rw [hf] at h
      by_cases hv : 0 < v n
      · rw [if_pos hv] at h
        have e : n = k := by simpa using h
        subst e
        exact ⟨by omega, hv, firstPos_none.1 hf⟩
      · rw [if_neg hv] at h; simp at h
theorem firstPos_congr {v u : Nat → Int} : ∀ {n : Nat}, (∀ i, i < n → v i = u i) → firstPos v n = firstPos u n
  | 0, _ => rfl
  | n + 1, h => by rw [firstPos, firstPos, firstPos_congr (n := n) (fun i hi => h i (by omega)), h n (by omega)]
def posOf (o : Option Nat) : Int := match o with | some k => k | none => -1
def valOf (v : Nat → Int) (o : Option Nat) : Int := match o with | some k => v k | none => 0
/-- How many are missing at an hour. -/
def missing (g : Nat → Int) (L : Int) (h : Nat → Int) (m : Nat) (i : Nat) : Int := g i - there L h i m

theorem and_true' {a b c : Bool} (h : a = (b && c)) (hb : b = true) : a = c := by rw [h, hb]; rfl
set_option maxHeartbeats 1000000 in
theorem l05There_any (L hour : Int) (hL : 1 ≤ L ∧ L ≤ 48) (hh : 0 ≤ hour ∧ hour ≤ 1000000) (m : Nat) (hm : m ≤ 2 ^ 40) (h : Nat → Int) (hB : ∀ i, i < m → 0 ≤ h i ∧ h i ≤ 1000000) (b o c : Nat) (w : World) (I : InI w b o m h) :
    Calls Tryd.prog 22 #[.int .i64 L, .slice (some ⟨b, o, none⟩) m c, .int .i64 hour] w fun e w' => e = .returned (.int .i64 (there L h hour m)) ∧ w = w' := by
  have HI := Lib.hid I
  have HB := Lib.hid hB
  clear I hB
  obtain ⟨hL1, hL2⟩ := hL
  obtain ⟨hh1, hh2⟩ := hh
  go_enter Tryd.func22, Tryd.ntmps22
  go_wp2_with fail
  go_loop [7, 8] (fun v i => ∃ k : Nat, k ≤ m ∧ v = .int .i64 (there L h hour k) ∧ i = .int .i64 k) (fun _ i => m - (intOf i).toNat)
  case atStart => exact ⟨0, by omega, rfl, rfl⟩
  case round =>
    obtain ⟨k, hk, rfl, rfl⟩ := hrel
    by_cases hlt : k < m
    · have c0 := HI.out k hlt
      obtain ⟨b1, b2⟩ := HB.out k hlt
      obtain ⟨t1, t2⟩ := there_in L h hour k
      by_cases h1 : h k ≤ hour
      · by_cases h2 : hour < h k + L
        · have ht : Hid (there L h hour (k + 1) = there L h hour k + 1) := Lib.hid (there_yes h1 h2)
          go_wp2_with fail
          go_round
          case rel => exact ⟨k + 1, by omega, by rw [ht.out], by go_num⟩
          case measure => simp [intOf]; omega
        · have ht : Hid (there L h hour (k + 1) = there L h hour k) := Lib.hid (there_no (fun x => h2 x.2))
          go_wp2_with fail
          go_round
          case rel => exact ⟨k + 1, by omega, by rw [ht.out], by go_num⟩
          case measure => simp [intOf]; omega
      · have ht : Hid (there L h hour (k + 1) = there L h hour k) := Lib.hid (there_no (fun x => h1 x.1))
        go_wp2_with fail
        go_round
        case rel => exact ⟨k + 1, by omega, by rw [ht.out], by go_num⟩
        case measure => simp [intOf]; omega
    · obtain rfl : k = m := by omega
      go_wp2_with fail
      go_ret
      exact ⟨rfl, rfl⟩
set_option maxHeartbeats 2000000 in
theorem l05Short_any (L : Int) (hL : 1 ≤ L ∧ L ≤ 48) (n : Nat) (hn : n ≤ 48) (g : Nat → Int) (hg : ∀ i, i < n → 0 ≤ g i ∧ g i ≤ 20) (m : Nat) (hm : m ≤ 2 ^ 40) (h : Nat → Int) (hB : ∀ i, i < m → 0 ≤ h i ∧ h i ≤ 1000000) (b o c b2 o2 c2 : Nat) (w : World) (I : InI w b o n g) (I2 : InI w b2 o2 m h) :
    Calls Tryd.prog 28 #[.slice (some ⟨b, o, none⟩) n c, .int .i64 L, .slice (some ⟨b2, o2, none⟩) m c2] w fun e w' => e = .returned (.tuple #[.int .i64 (posOf (firstPos (missing g L h m) n)), .int .i64 (valOf (missing g L h m) (firstPos (missing g L h m) n))]) ∧ Below w.heap.size w w' := by
  have HI := Lib.hid I
  have HI2 := Lib.hid I2
  have HB := Lib.hid hB
  have HG := Lib.hid hg
  clear I I2 hB hg
  go_enter Tryd.func28, Tryd.ntmps28
  go_wp2_with fail
  go_loopw [8] (fun i wr => ∃ k : Nat, k ≤ n ∧ i = .int .i64 k ∧ Hid (Below w.heap.size w wr) ∧ Hid (∀ i, i < k → missing g L h m i ≤ 0)) (fun i _ => n - (intOf i).toNat)
  case atStart => exact ⟨0, by omega, rfl, Lib.hid (Below.refl _ _), Lib.hid (fun i hi => by omega)⟩
  case round =>
    obtain ⟨k, hk, rfl, hb, hall⟩ := hrel
    by_cases hlt : k < n
    · have c0 := (HI.out.later hb.out) k hlt
      obtain ⟨g1, g2⟩ := HG.out k hlt
      obtain ⟨t1, t2⟩ := there_in L h k m
      have J2 := Lib.hid (HI2.out.later hb.out)
      obtain ⟨x, hx⟩ : ∃ x, there L h k m = x := ⟨_, rfl⟩
      have HX := Lib.hid hx
      rw [hx] at t1 t2
      clear hx
      have hmis : Hid (missing g L h m k = g k - x) := Lib.hid (by unfold missing; rw [HX.out])
      go_wp2_with fail
      go_quiet ((go_at_call 22; exact Calls.quiet_of_same ((l05There_any L k hL (by omega) m hm h HB.out b2 o2 c2 _ (by exact J2.out)).mono (fun e w9 h9 => ⟨h9.1.trans (by rw [HX.out]), h9.2.symm⟩))))
      by_cases hp : 0 < g k - x
      · go_wp2_with fail
        go_ret2
        refine ⟨?_, below_drewN _ hb.out⟩
        rw [firstPos_some hlt hall.out (by rw [hmis.out]; exact hp)]
        simp only [posOf, valOf, hmis.out]
        rfl
      · go_wp2_with fail
        go_roundw
        case rel => exact ⟨k + 1, by omega, by go_num, Lib.hid (below_drewN _ hb.out), Lib.hid (upto_succ hall.out (by rw [hmis.out]; omega))⟩
        case measure => simp [intOf]; omega
    · obtain rfl : k = n := by omega
      have hnone := Lib.hid (firstPos_none.2 hall.out)
      go_wp2_with fail
      go_ret2
      exact ⟨by rw [hnone.out]; rfl, hb.out⟩
set_option maxHeartbeats 2000000 in
theorem l05Needs_any (n : Nat) (hn : n ≤ 2 ^ 40) (g : Nat → Int) (L : Int) (m : Nat) (hm : m ≤ 2 ^ 40) (h : Nat → Int) (b o c b2 o2 c2 : Nat) (w : World) (I : InI w b o n g) (I2 : InI w b2 o2 m h) :
    Calls Tryd.prog 21 #[.slice (some ⟨b, o, none⟩) n c, .int .i64 L, .slice (some ⟨b2, o2, none⟩) m c2] w fun e w' => e = .returned (.int .i64 (shCode (shOk g n L h m))) ∧ w = w' := by
  have HI := Lib.hid I
  have HI2 := Lib.hid I2
  clear I I2
  go_enter Tryd.func21, Tryd.ntmps21
  by_cases hn48 : n ≤ 48
  · obtain ⟨q0, hq0⟩ : ∃ x, inB L 1 48 = x := ⟨_, rfl⟩
    have HQ := Lib.hid hq0
    clear hq0
    have hhd : Hid (headOk n L = q0) := Lib.hid (by unfold headOk; rw [HQ.out, decide_eq_true (by omega)]; rfl)
    go_wp2_with (go_at_call 32; refine (l00In_any _ _ _ _).mono ?_; rintro e w' ⟨rfl, rfl⟩; rw [HQ.out])
    go_loop [7, 8] (fun v i => ∃ k : Nat, ∃ q : Bool, k ≤ n ∧ v = .bool q ∧ i = .int .i64 k ∧ Hid (q = (headOk n L && needOk g k))) (fun _ i => n - (intOf i).toNat)
    case atStart => exact ⟨0, _, by omega, rfl, rfl, Lib.hid (by rw [hhd.out, needOk_zero, Bool.and_true])⟩
    case round =>
      obtain ⟨k, q, hk, rfl, rfl, hq⟩ := hrel
      by_cases hlt : k < n
      · have c0 := HI.out k hlt
        obtain ⟨p, hp⟩ : ∃ p, inB (g k) 0 20 = p := ⟨_, rfl⟩
        have HP := Lib.hid hp
        clear hp
        have hs : Hid ((headOk n L && needOk g (k + 1)) = (q && p)) := Lib.hid (by rw [needOk_succ, ← Bool.and_assoc, ← hq.out, HP.out])
        cases q with
        | true =>
          go_wp2_with (go_at_call 32; refine (l00In_any _ _ _ _).mono ?_; rintro e w' ⟨rfl, rfl⟩; rw [HP.out])
          go_round
          case rel => exact ⟨k + 1, _, by omega, rfl, by go_num, Lib.hid (by rw [hs.out]; rfl)⟩
          case measure => simp [intOf]; omega
        | false =>
          go_wp2_with fail
          go_round
          case rel => exact ⟨k + 1, _, by omega, rfl, by go_num, Lib.hid (by rw [hs.out]; rfl)⟩
          case measure => simp [intOf]; omega
      · obtain rfl : k = n := by omega
        go_wp2_with fail
        go_loop [7, 9] (fun v i => ∃ j : Nat, ∃ q : Bool, j ≤ m ∧ v = .bool q ∧ i = .int .i64 j ∧ Hid (q = (headOk k L && needOk g k && startOk h j k))) (fun _ i => m - (intOf i).toNat)
        case atStart => exact ⟨0, _, by omega, rfl, rfl, Lib.hid (by rw [hq.out, startOk_zero, Bool.and_true])⟩
        case round =>
          clear hq
          obtain ⟨j, q, hj, rfl, rfl, hq⟩ := hrel
          by_cases hlt2 : j < m
          · have c0 := HI2.out j hlt2
            obtain ⟨p, hp⟩ : ∃ p, inB (h j) 0 ((k : Int) - 1) = p := ⟨_, rfl⟩
            have HP := Lib.hid hp
            clear hp
            have hs : Hid ((headOk k L && needOk g k && startOk h (j + 1) k) = (q && p)) := Lib.hid (by rw [startOk_succ, ← Bool.and_assoc, ← hq.out, HP.out])
            cases q with
            | true =>
              go_wp2_with (go_at_call 32; refine (l00In_any _ _ _ _).mono ?_; rintro e w' ⟨rfl, rfl⟩; rw [HP.out])
              go_round
              case rel => exact ⟨j + 1, _, by omega, rfl, by go_num, Lib.hid (by rw [hs.out]; rfl)⟩
              case measure => simp [intOf]; omega
            | false =>
              go_wp2_with fail
              go_round
              case rel => exact ⟨j + 1, _, by omega, rfl, by go_num, Lib.hid (by rw [hs.out]; rfl)⟩
              case measure => simp [intOf]; omega
          · obtain rfl : j = m := by omega
            have he : Hid (shOk g k L h j = q) := Lib.hid (by unfold shOk; exact hq.out.symm)
            cases q with
            | true =>
              go_wp2_with fail
              go_ret
              exact ⟨by rw [he.out]; rfl, rfl⟩
            | false =>
              go_wp2_with fail
              go_ret
              exact ⟨by rw [he.out]; rfl, rfl⟩
  · have hhd : Hid (headOk n L = false) := Lib.hid (by unfold headOk; rw [decide_eq_false (by omega)]; rfl)
    go_wp2_with (fail)
    go_loop [7, 8] (fun v i => ∃ k : Nat, ∃ q : Bool, k ≤ n ∧ v = .bool q ∧ i = .int .i64 k ∧ Hid (q = (headOk n L && needOk g k))) (fun _ i => n - (intOf i).toNat)
    case atStart => exact ⟨0, _, by omega, rfl, rfl, Lib.hid (by rw [hhd.out, needOk_zero, Bool.and_true])⟩
    case round =>
      obtain ⟨k, q, hk, rfl, rfl, hq⟩ := hrel
      by_cases hlt : k < n
      · have c0 := HI.out k hlt
        obtain ⟨p, hp⟩ : ∃ p, inB (g k) 0 20 = p := ⟨_, rfl⟩
        have HP := Lib.hid hp
        clear hp
        have hs : Hid ((headOk n L && needOk g (k + 1)) = (q && p)) := Lib.hid (by rw [needOk_succ, ← Bool.and_assoc, ← hq.out, HP.out])
        cases q with
        | true =>
          go_wp2_with (go_at_call 32; refine (l00In_any _ _ _ _).mono ?_; rintro e w' ⟨rfl, rfl⟩; rw [HP.out])
          go_round
          case rel => exact ⟨k + 1, _, by omega, rfl, by go_num, Lib.hid (by rw [hs.out]; rfl)⟩
          case measure => simp [intOf]; omega
        | false =>
          go_wp2_with fail
          go_round
          case rel => exact ⟨k + 1, _, by omega, rfl, by go_num, Lib.hid (by rw [hs.out]; rfl)⟩
          case measure => simp [intOf]; omega
      · obtain rfl : k = n := by omega
        go_wp2_with fail
        go_loop [7, 9] (fun v i => ∃ j : Nat, ∃ q : Bool, j ≤ m ∧ v = .bool q ∧ i = .int .i64 j ∧ Hid (q = (headOk k L && needOk g k && startOk h j k))) (fun _ i => m - (intOf i).toNat)
        case atStart => exact ⟨0, _, by omega, rfl, rfl, Lib.hid (by rw [hq.out, startOk_zero, Bool.and_true])⟩
        case round =>
          clear hq
          obtain ⟨j, q, hj, rfl, rfl, hq⟩ := hrel
          by_cases hlt2 : j < m
          · have c0 := HI2.out j hlt2
            obtain ⟨p, hp⟩ : ∃ p, inB (h j) 0 ((k : Int) - 1) = p := ⟨_, rfl⟩
            have HP := Lib.hid hp
            clear hp
            have hs : Hid ((headOk k L && needOk g k && startOk h (j + 1) k) = (q && p)) := Lib.hid (by rw [startOk_succ, ← Bool.and_assoc, ← hq.out, HP.out])
            cases q with
            | true =>
              go_wp2_with (go_at_call 32; refine (l00In_any _ _ _ _).mono ?_; rintro e w' ⟨rfl, rfl⟩; rw [HP.out])
              go_round
              case rel => exact ⟨j + 1, _, by omega, rfl, by go_num, Lib.hid (by rw [hs.out]; rfl)⟩
              case measure => simp [intOf]; omega
            | false =>
              go_wp2_with fail
              go_round
              case rel => exact ⟨j + 1, _, by omega, rfl, by go_num, Lib.hid (by rw [hs.out]; rfl)⟩
              case measure => simp [intOf]; omega
          · obtain rfl : j = m := by omega
            have he : Hid (shOk g k L h j = q) := Lib.hid (by unfold shOk; exact hq.out.symm)
            cases q with
            | true =>
              go_wp2_with fail
              go_ret
              exact ⟨by rw [he.out]; rfl, rfl⟩
            | false =>
              go_wp2_with fail
              go_ret
              exact ⟨by rw [he.out]; rfl, rfl⟩
end Go.Proofs.YtieeanpkkpgnfaaDoor
