/-
  Stores: what mice eat, what is left behind some days; the model's.
-/
import Derived.Test.YtifcaedbclgahaaDoorSpec0
import Derived.Lib.Hide
import Derived.Outline
import Derived.Deep.QuietTactic
namespace Go.Proofs.YtifcaedbclgahaaDoor
open Go Go.RowKit

/-- What mice eat in a day. -/
def eatD (a m : Int) : Int := min (a * m / 1000) (50 * m)
def miceAt (m c : Int) : Nat → Int
  | 0 => m
  | k + 1 => max 0 (miceAt m c k - c)
def grainAt (a m c : Int) : Nat → Int
  | 0 => a
  | k + 1 => grainAt a m c k - eatD (grainAt a m c k) (miceAt m c k)
theorem eatD_in {a m : Int} (ha : 0 ≤ a ∧ a ≤ 1000000) (hm : 0 ≤ m ∧ m ≤ 100) : 0 ≤ a * m ∧ a * m ≤ 100000000 ∧ 0 ≤ eatD a m ∧ eatD a m ≤ a := by
  have h1 : 0 ≤ a * m := Int.mul_nonneg ha.1 hm.1
  have h2 : a * m ≤ a * 100 := Int.mul_le_mul_of_nonneg_left hm.2 ha.1
  unfold eatD
  omega
theorem miceAt_in {m c : Int} (hm : 0 ≤ m ∧ m ≤ 100) (hc : 0 ≤ c) : ∀ k : Nat, 0 ≤ miceAt m c k ∧ miceAt m c k ≤ 100
  | 0 => hm
  | k + 1 => by
    have ih := miceAt_in hm hc k
    unfold miceAt; omega
theorem grainAt_in {a m c : Int} (ha : 0 ≤ a ∧ a ≤ 1000000) (hm : 0 ≤ m ∧ m ≤ 100) (hc : 0 ≤ c) : ∀ k : Nat, 0 ≤ grainAt a m c k ∧ grainAt a m c k ≤ 1000000
  | 0 => ha
  | k + 1 => by
    have ih := grainAt_in ha hm hc k
    obtain ⟨_, _, h3, h4⟩ := eatD_in ih (miceAt_in hm hc k)
    unfold grainAt; omega
def stoOk (a m c d : Int) : Bool := inB a 0 1000000 && inB m 0 100 && inB c 0 10 && inB d 0 20
theorem stoOk_iff {a m c d : Int} : stoOk a m c d = true ↔ (0 ≤ a ∧ a ≤ 1000000) ∧ (0 ≤ m ∧ m ≤ 100) ∧ (0 ≤ c ∧ c ≤ 10) ∧ (0 ≤ d ∧ d ≤ 20) := by
  simp only [stoOk, Bool.and_eq_true, inB_iff]
  constructor
  · rintro ⟨⟨⟨h1, h2⟩, h3⟩, h4⟩; exact ⟨h1, h2, h3, h4⟩
  · rintro ⟨h1, h2, h3, h4⟩; exact ⟨⟨⟨h1, h2⟩, h3⟩, h4⟩
theorem wrap64_id {x : Int} (h1 : -9223372036854775808 ≤ x) (h2 : x ≤ 9223372036854775807) : wrap64 x = x := by unfold wrap64; omega
theorem l00Max7 (a b : Int) (w : World) : Calls Tryd.prog 20 #[.int .i64 a, .int .i64 b] w fun e w' => e = .returned (.int .i64 (max a b)) ∧ w = w' := by
  by_cases h : b < a
  · rw [show max a b = a by omega]
    go_enter Tryd.func20, Tryd.ntmps20
    go_wp2_with fail
    go_ret
    exact ⟨rfl, rfl⟩
  · rw [show max a b = b by omega]
    have h2 : a ≤ b := by omega
    go_enter Tryd.func20, Tryd.ntmps20
    go_wp2_with fail
    go_ret
    exact ⟨rfl, rfl⟩
theorem l00Min7 (a b : Int) (w : World) : Calls Tryd.prog 27 #[.int .i64 a, .int .i64 b] w fun e w' => e = .returned (.int .i64 (min a b)) ∧ w = w' := by
  by_cases h : a < b
  · rw [show min a b = a by omega]
    go_enter Tryd.func27, Tryd.ntmps27
    go_wp2_with fail
    go_ret
    exact ⟨rfl, rfl⟩
  · rw [show min a b = b by omega]
    have h2 : b ≤ a := by omega
    go_enter Tryd.func27, Tryd.ntmps27
    go_wp2_with fail
    go_ret
    exact ⟨rfl, rfl⟩
theorem l07Eaten_any (a m : Int) (ha : 0 ≤ a ∧ a ≤ 1000000) (hm : 0 ≤ m ∧ m ≤ 100) (w : World) : Calls Tryd.prog 19 #[.int .i64 a, .int .i64 m] w fun e w' => e = .returned (.int .i64 (eatD a m)) ∧ w = w' := by
  obtain ⟨h1, h2, _, _⟩ := eatD_in ha hm
  obtain ⟨hm1, hm2⟩ := hm
  have e1 : wrap64 (a * m) = a * m := wrap64_id (by omega) (by omega)
  go_enter Tryd.func19, Tryd.ntmps19
  go_wp2_with (go_at_call 27; refine (l00Min7 _ _ _).mono ?_; rintro e w' ⟨rfl, rfl⟩)
  go_ret
  exact ⟨rfl, rfl⟩
theorem l07Store_any (a m c d : Int) (w : World) : Calls Tryd.prog 18 #[.int .i64 a, .int .i64 m, .int .i64 c, .int .i64 d] w fun e w' => e = .returned (.bool (stoOk a m c d)) ∧ w = w' := by
  unfold stoOk
  obtain ⟨q1, h1⟩ : ∃ x, inB a 0 1000000 = x := ⟨_, rfl⟩
  obtain ⟨q2, h2⟩ : ∃ x, inB m 0 100 = x := ⟨_, rfl⟩
  obtain ⟨q3, h3⟩ : ∃ x, inB c 0 10 = x := ⟨_, rfl⟩
  obtain ⟨q4, h4⟩ : ∃ x, inB d 0 20 = x := ⟨_, rfl⟩
  rw [h1, h2, h3, h4]
  have H1 := Lib.hid h1
  have H2 := Lib.hid h2
  have H3 := Lib.hid h3
  have H4 := Lib.hid h4
  clear h1 h2 h3 h4
  cases q1 <;> cases q2 <;> cases q3
  all_goals
    go_enter Tryd.func18, Tryd.ntmps18
    go_wp2_with (go_at_call 22; refine (l00In_any _ _ _ _).mono ?_; rintro e w' ⟨rfl, rfl⟩; first | rw [H1.out] | rw [H2.out] | rw [H3.out] | rw [H4.out])
    go_ret
    exact ⟨rfl, rfl⟩
def stoVal (a m c d : Int) : Int := if stoOk a m c d then grainAt a m c d.toNat else 0
def stoMice (a m c d : Int) : Int := if stoOk a m c d then miceAt m c d.toNat else 0
def stoCode (b : Bool) : Int := if b then 0 else 2
set_option maxHeartbeats 1000000 in
theorem specStoreAfter (a m c d : Int) (w : World) : Calls Tryd.prog 9 #[.int .i64 a, .int .i64 m, .int .i64 c, .int .i64 d] w fun e w' => e = .returned (.tuple #[.int .i64 (stoVal a m c d), .int .i64 (stoMice a m c d), .int .i64 (stoCode (stoOk a m c d))]) ∧ w = w' := by
  unfold stoVal stoMice
  cases hok : stoOk a m c d with
  | false =>
    go_enter Tryd.func9, Tryd.ntmps9
    go_wp2_with (go_at_call 18; refine (l07Store_any a m c d _).mono ?_; rintro e w' ⟨rfl, rfl⟩; rw [hok])
    go_ret3
    exact ⟨rfl, rfl⟩
  | true =>
    obtain ⟨ha, hm, ⟨hc1, hc2⟩, ⟨hd1, hd2⟩⟩ := stoOk_iff.1 hok
    have HA := Lib.hid ha
    have HM := Lib.hid hm
    clear ha hm
    obtain ⟨n, rfl⟩ : ∃ n : Nat, d = n := ⟨d.toNat, by omega⟩
    go_enter Tryd.func9, Tryd.ntmps9
    go_wp2_with (go_at_call 18; refine (l07Store_any a m c n _).mono ?_; rintro e w' ⟨rfl, rfl⟩; rw [hok])
    clear hok
    go_loop [0, 1, 11] (fun x y i => ∃ k : Nat, k ≤ n ∧ x = .int .i64 (grainAt a m c k) ∧ y = .int .i64 (miceAt m c k) ∧ i = .int .i64 k) (fun _ _ i => n - (intOf i).toNat)
    case atStart => exact ⟨0, by omega, rfl, rfl, rfl⟩
    case round =>
      obtain ⟨k, hk, rfl, rfl, rfl⟩ := hrel
      by_cases hlt : k < n
      · obtain ⟨g, hg⟩ : ∃ x, grainAt a m c k = x := ⟨_, rfl⟩
        obtain ⟨u, hu⟩ : ∃ x, miceAt m c k = x := ⟨_, rfl⟩
        obtain ⟨g1, g2⟩ := grainAt_in HA.out HM.out hc1 k
        obtain ⟨u1, u2⟩ := miceAt_in HM.out hc1 k
        rw [hg] at g1 g2 ⊢
        rw [hu] at u1 u2 ⊢
        have hE := eatD_in ⟨g1, g2⟩ ⟨u1, u2⟩
        obtain ⟨x, hx⟩ : ∃ x, eatD g u = x := ⟨_, rfl⟩
        rw [hx] at hE
        obtain ⟨_, _, x1, x2⟩ := hE
        have HX := Lib.hid hx
        have HG := Lib.hid (show grainAt a m c (k + 1) = g - x by rw [grainAt, hg, hu, hx])
        have HU := Lib.hid (show miceAt m c (k + 1) = max 0 (u - c) by rw [miceAt, hu])
        clear hx hg hu
        go_wp2_with (first
          | (go_at_call 19; refine (l07Eaten_any g u ⟨g1, g2⟩ ⟨u1, u2⟩ _).mono ?_; rintro e w' ⟨rfl, rfl⟩; rw [HX.out])
          | (go_at_call 20; refine (l00Max7 _ _ _).mono ?_; rintro e w' ⟨rfl, rfl⟩))
        go_round
        case rel => exact ⟨k + 1, by omega, by rw [HG.out], by rw [HU.out], by go_num⟩
        case measure => simp [intOf]; omega
      · obtain rfl : k = n := by omega
        go_wp2_with fail
        go_ret3
        exact ⟨rfl, rfl⟩
/-- The first day behind which less than need is left. -/
def firstLess (a m c need : Int) : Nat → Option Nat
  | 0 => none
  | n + 1 => (firstLess a m c need n).or (if grainAt a m c n < need then some n else none)
theorem firstLess_none {a m c need : Int} : ∀ {n : Nat}, firstLess a m c need n = none ↔ ∀ i, i < n → need ≤ grainAt a m c i
  | 0 => by simp [firstLess]
  | n + 1 => by
    have ih := firstLess_none (a := a) (m := m) (c := c) (need := need) (n := n)
    rw [firstLess]
    constructor
    · intro h i hi
      rw [Option.or_eq_none_iff] at h
      by_cases e : i = n
      · subst e; by_cases hv : grainAt a m c i < need
        · rw [if_pos hv] at h; simp at h
        · omega
      · exact ih.1 h.1 i (by omega)
    · intro h
      rw [ih.2 (fun i hi => h i (by omega)), if_neg (by have := h n (by omega); omega)]; rfl
theorem firstLess_some {a m c need : Int} {n k : Nat} (hk : k < n) (h0 : ∀ i, i < k → need ≤ grainAt a m c i) (h1 : grainAt a m c k < need) : firstLess a m c need n = some k := by
  induction n with
  | zero => omega
  | succ n ih =>
    rw [firstLess]
    by_cases e : k = n
    · subst e; rw [firstLess_none.2 h0, if_pos h1]; rfl
    · rw [ih (by omega)]; rfl
theorem firstLess_spec {a m c need : Int} : ∀ {n k : Nat}, firstLess a m c need n = some k → k < n ∧ grainAt a m c k < need ∧ ∀ i, i < k → need ≤ grainAt a m c i
  | 0, k, h => by simp [firstLess] at h
  | n + 1, k, h => by
    rw [firstLess] at h
    cases hf : firstLess a m c need n with
    | some j =>
      rw [hf] at h
      have e : j = k := by simpa using h
      subst e
      have := firstLess_spec hf
      exact ⟨by omega, this.2⟩
    | none =>
      rw [hf] at h
      by_cases hv : grainAt a m c n < need
      · rw [if_pos hv] at h
        have e : n = k := by simpa using h
        subst e
        exact ⟨by omega, hv, firstLess_none.1 hf⟩
      · rw [if_neg hv] at h; simp at h
def needOk7 (a m c need : Int) : Bool := stoOk a m c 0 && inB need 1 1000000
def lessDay (o : Option Nat) : Int := match o with | some k => k | none => 0
def lessCode (o : Option Nat) : Int := match o with | some _ => 0 | none => 6
def dayVal (a m c need : Int) : Int := if needOk7 a m c need then lessDay (firstLess a m c need 21) else 0
def dayCode (a m c need : Int) : Int := if needOk7 a m c need then lessCode (firstLess a m c need 21) else 2
set_option maxHeartbeats 1000000 in
theorem specDaysOfStore (a m c d : Int) (w : World) : Calls Tryd.prog 11 #[.int .i64 a, .int .i64 m, .int .i64 c, .int .i64 d] w fun e w' => e = .returned (.tuple #[.int .i64 (dayVal a m c d), .int .i64 (dayCode a m c d)]) ∧ w = w' := by
  obtain ⟨q1, hok⟩ : ∃ x, stoOk a m c 0 = x := ⟨_, rfl⟩
  obtain ⟨q2, hq2⟩ : ∃ x, inB d 1 1000000 = x := ⟨_, rfl⟩
  have HQ := Lib.hid hq2
  have HO := Lib.hid hok
  have HV : Hid (dayVal a m c d = if (q1 && q2) = true then lessDay (firstLess a m c d 21) else 0) := Lib.hid (by unfold dayVal needOk7; rw [hok, hq2])
  have HC : Hid (dayCode a m c d = if (q1 && q2) = true then lessCode (firstLess a m c d 21) else 2) := Lib.hid (by unfold dayCode needOk7; rw [hok, hq2])
  clear hok hq2
  cases q1 with
  | false =>
    rw [HV.out, HC.out]
    go_enter Tryd.func11, Tryd.ntmps11
    go_wp2_with (go_at_call 18; refine (l07Store_any a m c 0 _).mono ?_; rintro e w' ⟨rfl, rfl⟩; rw [HO.out])
    go_ret2
    exact ⟨rfl, rfl⟩
  | true =>
  cases q2 with
  | false =>
    rw [HV.out, HC.out]
    go_enter Tryd.func11, Tryd.ntmps11
    go_wp2_with (first
      | (go_at_call 18; refine (l07Store_any a m c 0 _).mono ?_; rintro e w' ⟨rfl, rfl⟩; rw [HO.out])
      | (go_at_call 22; refine (l00In_any _ _ _ _).mono ?_; rintro e w' ⟨rfl, rfl⟩; rw [HQ.out]))
    go_ret2
    exact ⟨rfl, rfl⟩
  | true =>
    have HV2 : Hid (dayVal a m c d = lessDay (firstLess a m c d 21)) := Lib.hid (by rw [HV.out]; rfl)
    have HC2 : Hid (dayCode a m c d = lessCode (firstLess a m c d 21)) := Lib.hid (by rw [HC.out]; rfl)
    clear HV HC
    rw [HV2.out, HC2.out]
    obtain ⟨ha, hm, ⟨hc1, hc2⟩, _⟩ := stoOk_iff.1 HO.out
    have HA := Lib.hid ha
    have HM := Lib.hid hm
    have hd := inB_iff.1 HQ.out
    obtain ⟨hd1, hd2⟩ := hd
    clear ha hm
    obtain ⟨o, ho⟩ : ∃ o, firstLess a m c d 21 = o := ⟨_, rfl⟩
    have HOO := Lib.hid ho
    rw [ho]
    clear ho
    go_enter Tryd.func11, Tryd.ntmps11
    go_wp2_with (first
      | (go_at_call 18; refine (l07Store_any a m c 0 _).mono ?_; rintro e w' ⟨rfl, rfl⟩; rw [HO.out])
      | (go_at_call 22; refine (l00In_any _ _ _ _).mono ?_; rintro e w' ⟨rfl, rfl⟩; rw [HQ.out]))
    go_loop [0, 1, 10] (fun x y i => ∃ k : Nat, k ≤ 21 ∧ x = .int .i64 (grainAt a m c k) ∧ y = .int .i64 (miceAt m c k) ∧ i = .int .i64 k ∧ Hid (∀ i, i < k → d ≤ grainAt a m c i)) (fun _ _ i => 21 - (intOf i).toNat)
    case atStart => exact ⟨0, by omega, rfl, rfl, rfl, Lib.hid (fun i hi => by omega)⟩
    case round =>
      obtain ⟨k, hk, rfl, rfl, rfl, hall⟩ := hrel
      by_cases hlt : k < 21
      · obtain ⟨g, hg⟩ : ∃ x, grainAt a m c k = x := ⟨_, rfl⟩
        obtain ⟨u, hu⟩ : ∃ x, miceAt m c k = x := ⟨_, rfl⟩
        obtain ⟨g1, g2⟩ := grainAt_in HA.out HM.out hc1 k
        obtain ⟨u1, u2⟩ := miceAt_in HM.out hc1 k
        rw [hg] at g1 g2 ⊢
        rw [hu] at u1 u2 ⊢
        have hE := eatD_in ⟨g1, g2⟩ ⟨u1, u2⟩
        obtain ⟨x, hx⟩ : ∃ x, eatD g u = x := ⟨_, rfl⟩
        rw [hx] at hE
        obtain ⟨_, _, x1, x2⟩ := hE
        have HX := Lib.hid hx
        have HG0 := Lib.hid hg
        have HG := Lib.hid (show grainAt a m c (k + 1) = g - x by rw [grainAt, hg, hu, hx])
        have HU := Lib.hid (show miceAt m c (k + 1) = max 0 (u - c) by rw [miceAt, hu])
        clear hx hg hu
        by_cases hless : g < d
        · have HS := Lib.hid ((firstLess_some hlt hall.out (by rw [HG0.out]; exact hless)).symm.trans HOO.out)
          go_wp2_with fail
          go_ret2
          exact ⟨by rw [← HS.out]; rfl, rfl⟩
        · go_wp2_with (first
            | (go_at_call 19; refine (l07Eaten_any g u ⟨g1, g2⟩ ⟨u1, u2⟩ _).mono ?_; rintro e w' ⟨rfl, rfl⟩; rw [HX.out])
            | (go_at_call 20; refine (l00Max7 _ _ _).mono ?_; rintro e w' ⟨rfl, rfl⟩))
          go_round
          case rel => exact ⟨k + 1, by omega, by rw [HG.out], by rw [HU.out], by go_num, Lib.hid (upto_succ hall.out (by rw [HG0.out]; omega))⟩
          case measure => simp [intOf]; omega
      · obtain rfl : k = 21 := by omega
        have HS := Lib.hid ((firstLess_none.2 hall.out).symm.trans HOO.out)
        go_wp2_with fail
        go_ret2
        exact ⟨by rw [← HS.out]; rfl, rfl⟩
end Go.Proofs.YtifcaedbclgahaaDoor
