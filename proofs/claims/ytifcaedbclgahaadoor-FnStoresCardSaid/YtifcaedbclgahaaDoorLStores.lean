/-
  FnStores: whatever the bytes, a store never grows, nor do its mice, and it is less than a need behind as many days as told, and not before: no condition beyond the listed sentinels, which the card ties to the program's text.
-/
import Derived.Test.YtifcaedbclgahaaDoorStoI
import Derived.Test.YtifcaedbclgahaaDoorSrc
import Derived.Test.YtifcaedbclgahaaDoorCard
import Derived.Test.YtifcaedbclgahaaDoorTie
import Derived.Test.YtifcaedbclgahaaDoorCards
import Derived.SevenTiedAt
import Derived.OpenVars
import Derived.ChangeOld
import Derived.Below
namespace Go.Proofs.YtifcaedbclgahaaDoor.lawStores
open Go Go.ChangeShapes Go.WideShapes Go.ChangeAt Go.RowKit

theorem miceAt_eq (m c : Int) (hm : 0 ≤ m) (hc : 0 ≤ c) : ∀ k : Nat, miceAt m c k = max 0 (m - c * k)
  | 0 => by simp [miceAt]; omega
  | k + 1 => by
    have ih := miceAt_eq m c hm hc k
    have e : c * ((k + 1 : Nat) : Int) = c * k + c := by rw [Int.natCast_add, Int.mul_add]; simp
    unfold miceAt
    rw [ih, e]
    omega
theorem grain_le {a m c : Int} (ha : 0 ≤ a ∧ a ≤ 1000000) (hm : 0 ≤ m ∧ m ≤ 100) (hc : 0 ≤ c) (k : Nat) : grainAt a m c (k + 1) ≤ grainAt a m c k := by
  obtain ⟨_, _, h3, _⟩ := eatD_in (grainAt_in ha hm hc k) (miceAt_in hm hc k)
  show grainAt a m c k - eatD (grainAt a m c k) (miceAt m c k) ≤ _
  omega
theorem val_at {a m c : Int} {k : Nat} (h : stoOk a m c k = true) : stoVal a m c k = grainAt a m c k ∧ stoMice a m c k = miceAt m c k ∧ stoCode (stoOk a m c k) = 0 := by
  refine ⟨?_, ?_, by rw [h]; rfl⟩
  · unfold stoVal; rw [if_pos h, Int.toNat_natCast]
  · unfold stoMice; rw [if_pos h, Int.toNat_natCast]
set_option maxRecDepth 100000 in
set_option maxHeartbeats 16000000 in
theorem walk (w : World) (s0 : Option Addr) (z0 c0 : Nat) (g0 : Nat → Int) (hz0 : z0 ≤ 2 ^ 63 - 1) (hi0 : QJ w s0 z0 g0) (hg0 : WfQ z0 g0) (s1 : Option Addr) (z1 c1 : Nat) (g1 : Nat → Int) (hz1 : z1 ≤ 2 ^ 63 - 1) (hi1 : QJ w s1 z1 g1) (hg1 : WfQ z1 g1) (A : Nat → Addr) (S0 : Sents w A) :
    Calls Tryd.prog 3 #[.slice s0 z0 c0, .slice s1 z1 c1] w fun e w' => e = .returned (.bool true) ∧ Below w.heap.size w w' := by
  have S : Hid (Sents w A) := Lib.hid S0
  have HI0 := Lib.hid hi0
  have HI1 := Lib.hid hi1
  have HG0 := Lib.hid hg0
  have HG1 := Lib.hid hg1
  clear S0 hi0 hi1 hg0 hg1
  by_cases hb0 : 4096 < z0
  · have t0 : decide (4096 < (z0 : Int)) = true := decide_eq_true (by omega)
    go_enter Tryd.func3, Tryd.ntmps3
    go_wp2_with (go_at_call 6; refine (f6big_any s0 z0 c0 (by omega) _).mono ?_; rintro e w' ⟨rfl, rfl⟩; rw [t0])
    go_ret
    exact ⟨rfl, Below.refl _ _⟩
  have t0 : decide (4096 < (z0 : Int)) = false := decide_eq_false (by omega)
  by_cases hb1 : 4096 < z1
  · have t1 : decide (4096 < (z1 : Int)) = true := decide_eq_true (by omega)
    go_enter Tryd.func3, Tryd.ntmps3
    have ok1 : True := trivial
    go_wp2_with (first
      | (clear ok1; go_at_call 6; refine (f6big_any s0 z0 c0 (by omega) _).mono ?_; rintro e w' ⟨rfl, rfl⟩; rw [t0])
      | (go_at_call 6; refine (f6big_any s1 z1 c1 (by omega) _).mono ?_; rintro e w' ⟨rfl, rfl⟩; rw [t1]))
    go_ret
    exact ⟨rfl, Below.refl _ _⟩
  have t1 : decide (4096 < (z1 : Int)) = false := decide_eq_false (by omega)
  have q0 : z0 ≤ 2 ^ 40 := by omega
  have q1 : z1 ≤ 2 ^ 40 := by omega
  go_enter Tryd.func3, Tryd.ntmps3
  have ok1 : True := trivial
  have ok2 : True := trivial
  have ok3 : True := trivial
  have ok4 : True := trivial
  have ok5 : True := trivial
  have ok6 : True := trivial
  have HB0 := Lib.hid (Below.refl w.heap.size w)
  go_upto_region 4 with (first
    | (clear ok1; go_at_call 6; refine (f6big_any s0 z0 c0 (by omega) _).mono ?_; rintro e w' ⟨rfl, rfl⟩; rw [t0])
    | (clear ok2; go_at_call 6; refine (f6big_any s1 z1 c1 (by omega) _).mono ?_; rintro e w' ⟨rfl, rfl⟩; rw [t1])
    | (clear ok3; go_at_call 7; refine (p6pick_any s0 z0 c0 q0 g0 HG0.out 200 (by omega) _ (HI0.out.later HB0.out)).mono ?_; rintro e W1 ⟨⟨x1, rfl, hx1, hx1'⟩, hb⟩; have HB1 := Lib.hid (HB0.out.trans (hb.mono HB0.out.size)); clear hb)
    | (clear ok4; go_at_call 7; refine (p6pick_any s1 z1 c1 q1 g1 HG1.out 100 (by omega) _ (HI1.out.later HB1.out)).mono ?_; rintro e W2 ⟨⟨x2, rfl, hx2, hx2'⟩, hb⟩; have HB2 := Lib.hid (HB1.out.trans (hb.mono HB1.out.size)); clear hb))
  go_upto_region 7 with (first
    | (clear ok5; go_at_call 7; refine (p6pick_any s1 z1 c1 q1 g1 HG1.out 60 (by omega) _ (HI1.out.later HB2.out)).mono ?_; rintro e W3 ⟨⟨m, rfl, hm1, hm2⟩, hb⟩; have HB3 := Lib.hid (HB2.out.trans (hb.mono HB2.out.size)); clear hb)
    | (clear ok6; go_at_call 7; refine (p6pick_any s0 z0 c0 q0 g0 HG0.out 5 (by omega) _ (HI0.out.later HB3.out)).mono ?_; rintro e W4 ⟨⟨c, rfl, hc1, hc2⟩, hb⟩; have HB4 := Lib.hid (HB3.out.trans (hb.mono HB3.out.size)); clear hb))
  obtain ⟨a, ha⟩ : ∃ a, 100 * x1 + x2 = a := ⟨_, rfl⟩
  rw [ha]
  have ha1 : 0 ≤ a ∧ a ≤ 19999 := by omega
  have HA := Lib.hid (show 0 ≤ a ∧ a ≤ 1000000 by omega)
  have HM := Lib.hid (show 0 ≤ m ∧ m ≤ 100 by omega)
  have HOK : Hid (∀ k : Nat, k ≤ 20 → stoOk a m c k = true) := Lib.hid (fun k hk => stoOk_iff.2 ⟨by omega, by omega, by omega, by omega⟩)
  clear ha HB0 HB1 HB2 HB3
  obtain ⟨ha1, ha2⟩ := ha1
  go_wp2_with fail
  go_loopw [8, 9] (fun v i wr => ∃ k : Nat, ∃ bf : Int, k ≤ 13 ∧ v = .int .i64 bf ∧ i = .int .i64 k ∧ Hid (grainAt a m c k ≤ bf) ∧ Hid (Below w.heap.size w wr)) (fun _ i _ => 13 - (intOf i).toNat)
  case atStart => exact ⟨0, a, by omega, rfl, rfl, Lib.hid (Int.le_refl _), HB4⟩
  case round =>
    clear HB4
    obtain ⟨k, bf, hk, rfl, rfl, hle, hb⟩ := hrel
    by_cases hlt : k < 13
    · obtain ⟨e1, e2, e3⟩ := val_at (HOK.out k (by omega))
      have hin := grainAt_in HA.out HM.out hc1 k
      have hmm := miceAt_eq m c hm1 hc1 k
      have hmi := miceAt_in HM.out hc1 k
      have hstep := Lib.hid (grain_le HA.out HM.out hc1 k)
      obtain ⟨g, hg⟩ : ∃ x, grainAt a m c k = x := ⟨_, rfl⟩
      obtain ⟨u, hu⟩ : ∃ x, miceAt m c k = x := ⟨_, rfl⟩
      rw [hg] at e1 hin hle hstep
      rw [hu] at e2 hmm hmi
      have E1 := Lib.hid e1
      have E2 := Lib.hid e2
      have E3 := Lib.hid e3
      have hle2 := hle.out
      have hck : 0 ≤ c * (k : Int) ∧ c * (k : Int) ≤ 60 := by
        have h1 : 0 ≤ c * (k : Int) := Int.mul_nonneg hc1 (by omega)
        have h2 : c * (k : Int) ≤ 5 * (k : Int) := Int.mul_le_mul_of_nonneg_right (by omega) (by omega)
        omega
      obtain ⟨ck1, ck2⟩ := hck
      have hmx : ∀ (ts : Array TypeId) (t : TypeId) (W : World), (Builtin.max_ ts t #[.int .i64 0, .int .i64 (m - c * (k : Int))]).run Tryd.prog W = .ok (.int .i64 u) W := fun ts t W => by
        have e : (if c * (k : Int) < m then m - c * (k : Int) else 0) = u := by rw [hmm]; omega
        simp [Builtin.max_, Builtin.max2, e]
      clear e1 e2 e3 hg hu hmm hle
      obtain ⟨hin1, hin2⟩ := hin
      go_wp2_with (first
        | (go_at_call 8; refine (implStoreAfter a m c k A _ (S.out.later hb.out)).mono ?_; rintro e W5 ⟨rfl, hb5⟩; rw [E1.out, E2.out, E3.out]; have hb6 := Lib.hid (hb.out.trans (hb5.mono hb.out.size)); clear hb5)
        | (go_at_call 9; refine (specStoreAfter a m c k _).mono ?_; rintro e W6 ⟨rfl, rfl⟩; rw [E1.out, E2.out, E3.out]))
      go_roundw
      case rel => exact ⟨k + 1, g, by omega, rfl, by go_num, hstep, hb6⟩
      case measure => simp [intOf]; omega
    · obtain rfl : k = 13 := by omega
      clear hle
      go_upto_region 16 with (go_at_call 7; refine (p6pick_any s1 z1 c1 q1 g1 HG1.out 200 (by omega) _ (HI1.out.later hb.out)).mono ?_; rintro e W7 ⟨⟨x3, rfl, hx3, hx3'⟩, hb7⟩; have hb8 := Lib.hid (hb.out.trans (hb7.mono hb.out.size)); clear hb7)
      obtain ⟨d, hd⟩ : ∃ d, 1 + x3 * 100 = d := ⟨_, rfl⟩
      rw [hd]
      have hd1 : 1 ≤ d ∧ d ≤ 1000000 := by omega
      clear hd
      have hn7 : needOk7 a m c d = true := by
        unfold needOk7
        have h20 := HOK.out 0 (by omega)
        rw [show stoOk a m c 0 = true from h20, inB_iff.2 hd1]; rfl
      have V1 : Hid (dayVal a m c d = lessDay (firstLess a m c d 21)) := Lib.hid (by unfold dayVal; rw [if_pos hn7])
      have V2 : Hid (dayCode a m c d = lessCode (firstLess a m c d 21)) := Lib.hid (by unfold dayCode; rw [if_pos hn7])
      clear hn7
      obtain ⟨o, ho⟩ : ∃ o, firstLess a m c d 21 = o := ⟨_, rfl⟩
      have HO := Lib.hid ho
      rw [ho] at V1 V2
      clear ho
      obtain ⟨hd1, hd2⟩ := hd1
      cases o with
      | none =>
        have hall := firstLess_none.1 HO.out
        have h20 := hall 20 (by omega)
        obtain ⟨e1, e2, e3⟩ := val_at (HOK.out 20 (by omega))
        obtain ⟨g, hg⟩ : ∃ x, grainAt a m c 20 = x := ⟨_, rfl⟩
        rw [hg] at e1 h20
        have E1 := Lib.hid (show stoVal a m c 20 = g from e1)
        have E3 := Lib.hid (show stoCode (stoOk a m c 20) = 0 from e3)
        have X1 : Hid (lessDay none = 0) := Lib.hid rfl
        have X2 : Hid (lessCode none = 6) := Lib.hid rfl
        obtain ⟨u, hu⟩ : ∃ x, stoMice a m c 20 = x := ⟨_, rfl⟩
        have HU := Lib.hid hu
        clear hall hg e1 e2 e3 hu
        go_wp2_with (first
          | (go_at_call 10; refine (implDaysOfStore a m c d A _ (S.out.later hb8.out)).mono ?_; rintro e W9 ⟨rfl, hb9⟩; rw [V1.out, V2.out, X1.out, X2.out]; have hb10 := Lib.hid (hb8.out.trans (hb9.mono hb8.out.size)); clear hb9)
          | (go_at_call 11; refine (specDaysOfStore a m c d _).mono ?_; rintro e W6 ⟨rfl, rfl⟩; rw [V1.out, V2.out, X1.out, X2.out])
          | (go_at_call 8; refine (implStoreAfter a m c 20 A _ (S.out.later hb10.out)).mono ?_; rintro e W11 ⟨rfl, hb11⟩; rw [E1.out, HU.out, E3.out]; have hb12 := Lib.hid (hb10.out.trans (hb11.mono hb10.out.size)); clear hb11))
        go_ret
        exact ⟨rfl, hb12.out⟩
      | some q =>
        obtain ⟨hq1, hq2, hq3⟩ := firstLess_spec HO.out
        obtain ⟨e1, e2, e3⟩ := val_at (HOK.out q (by omega))
        obtain ⟨g, hg⟩ : ∃ x, grainAt a m c q = x := ⟨_, rfl⟩
        rw [hg] at e1 hq2
        have E1 := Lib.hid e1
        have E3 := Lib.hid e3
        have X1 : Hid (lessDay (some q) = q) := Lib.hid rfl
        have X2 : Hid (lessCode (some q) = 0) := Lib.hid rfl
        obtain ⟨u, hu⟩ : ∃ x, stoMice a m c q = x := ⟨_, rfl⟩
        have HU := Lib.hid hu
        have HQ3 := Lib.hid hq3
        clear hg e1 e2 e3 hu hq3
        by_cases hz : q = 0
        · subst hz
          go_wp2_with (first
            | (go_at_call 10; refine (implDaysOfStore a m c d A _ (S.out.later hb8.out)).mono ?_; rintro e W9 ⟨rfl, hb9⟩; rw [V1.out, V2.out, X1.out, X2.out]; have hb10 := Lib.hid (hb8.out.trans (hb9.mono hb8.out.size)); clear hb9)
            | (go_at_call 11; refine (specDaysOfStore a m c d _).mono ?_; rintro e W6 ⟨rfl, rfl⟩; rw [V1.out, V2.out, X1.out, X2.out])
            | (go_at_call 8; refine (implStoreAfter a m c ((0 : Nat) : Int) A _ (S.out.later hb10.out)).mono ?_; rintro e W11 ⟨rfl, hb11⟩; rw [E1.out, HU.out, E3.out]; have hb12 := Lib.hid (hb10.out.trans (hb11.mono hb10.out.size)); clear hb11))
          go_ret
          exact ⟨rfl, hb12.out⟩
        · obtain ⟨r, rfl⟩ : ∃ r, q = r + 1 := ⟨q - 1, by omega⟩
          have hr := HQ3.out r (by omega)
          obtain ⟨e1, e2, e3⟩ := val_at (HOK.out r (by omega))
          obtain ⟨g2, hg2⟩ : ∃ x, grainAt a m c r = x := ⟨_, rfl⟩
          rw [hg2] at e1 hr
          have er : ((r + 1 : Nat) : Int) - 1 = (r : Int) := by omega
          have F1 := Lib.hid e1
          have F3 := Lib.hid e3
          obtain ⟨u2, hu2⟩ : ∃ x, stoMice a m c r = x := ⟨_, rfl⟩
          have HU2 := Lib.hid hu2
          clear hg2 e1 e2 e3 hu2
          have hne0 : ¬ ((r + 1 : Nat) : Int) = 0 := by omega
          obtain ⟨r1, hr1⟩ : ∃ x, ((r + 1 : Nat) : Int) = x := ⟨_, rfl⟩
          rw [hr1] at E1 E3 X1 HU er hne0
          have hrl : r1 ≤ 20 ∧ 1 ≤ r1 := by omega
          clear hr1
          have okA : True := trivial
          go_wp2_with (first
            | (go_at_call 10; refine (implDaysOfStore a m c d A _ (S.out.later hb8.out)).mono ?_; rintro e W9 ⟨rfl, hb9⟩; rw [V1.out, V2.out, X1.out, X2.out]; have hb10 := Lib.hid (hb8.out.trans (hb9.mono hb8.out.size)); clear hb9)
            | (go_at_call 11; refine (specDaysOfStore a m c d _).mono ?_; rintro e W6 ⟨rfl, rfl⟩; rw [V1.out, V2.out, X1.out, X2.out])
            | (clear okA; go_at_call 8; refine (implStoreAfter a m c r1 A _ (S.out.later hb10.out)).mono ?_; rintro e W11 ⟨rfl, hb11⟩; rw [E1.out, HU.out, E3.out]; have hb12 := Lib.hid (hb10.out.trans (hb11.mono hb10.out.size)); clear hb11)
            | (go_at_call 8; (try rw [er]); refine (implStoreAfter a m c r A _ (S.out.later hb12.out)).mono ?_; rintro e W13 ⟨rfl, hb13⟩; rw [F1.out, HU2.out, F3.out]; have hb14 := Lib.hid (hb12.out.trans (hb13.mono hb12.out.size)); clear hb13))
          go_ret
          exact ⟨rfl, hb14.out⟩
theorem trodVars_len {H : Type} {enc : TypeId × Value → H} {P : Program} {w : World} {sp : Nat → Bool} : ∀ {ns : List String} {gs : List (DataW H)} {ps : List MemPlace}, DataW.TrodVars enc P w sp ns gs ps → gs.length = ns.length
  | [], [], _, _ => rfl
  | [], _ :: _, _, h => h.elim
  | _ :: _, [], _, h => h.elim
  | _ :: _, _ :: _, _, ⟨_, _, _, _, _, _, _, _, _, _, h, _⟩ => congrArg (· + 1) (trodVars_len h)
theorem door_met (os : Os) (args : Array Value) : laidMetH Tryd.prog Rows.fnStoresRow.laid ((World.doorLaid Tryd.prog 400 os).forCall (fun _ _ => 0) ⟨#[], args, []⟩).memory :=
  laidMetH_of_parts3 (fuel := 8) (laidMet_of_run' 8 (by kernel_rfl) (by kernel_rfl)) (by kernel_rfl) (by kernel_rfl)
set_option maxRecDepth 100000 in
theorem lifted (os : Os) (started : os.Started) (H : Type) (enc : TypeId × Value → H) :
    ReturnsInHanded {} Tryd.checked os 3 .any (fun w args => (Rows.fnStoresSpec.pre enc Tryd.prog Tryd.f3 Rows.fnStoresRow.domain false w args ∧ laidMetH Tryd.prog Rows.fnStoresRow.laid w) ∧ sizedMet enc Tryd.prog Tryd.f3 (OpenSpec.ofChange Rows.fnStoresSpec) false w args) (Rows.fnStoresSpec.post enc Tryd.prog Tryd.f3 false true false false) := by
  refine returnsInHanded_of_change_and (C := Tryd.checked) (X := fun w _ => laidMetH Tryd.prog Rows.fnStoresRow.laid w) (fun _ _ _ hh h => h.of_heap hh) own started (by kernel_rfl) Tryd.func3
    (ChangeSpec.witness_shaped (enc := enc) (C := Tryd.checked) (os := os) (X := fun w _ => laidMetH Tryd.prog Rows.fnStoresRow.laid w) false (World.doorLaid Tryd.prog 400 os) #[.slice none 0 0, .slice none 0 0] 8 rfl (World.shaped_of_RefB (by kernel_rfl) (by kernel_rfl)) (by kernel_rfl) (by kernel_rfl) (by kernel_rfl) (door_met os _)) ?_
  intro W base args ds gs before hval0 hW _ _ hL _
  have hval : ∀ (j : Nat) t v, Tryd.f3.params[j]? = some t → args[j]? = some v → Value.okWide Tryd.prog W .any base t v := hval0
  have hW' := hW
  obtain ⟨p, q, hA0, hV0, rfl, hfz, hnd⟩ := hW
  have hA : DataW.TrodAll enc Tryd.prog W 0 (fun _ => true) true Tryd.f3.params.toList args.toList ds p := hA0
  have hV : DataW.TrodVars enc Tryd.prog W (fun _ => true) Rows.fnStoresSpec.vars gs q := hV0
  rw [Tryd.params3] at hA hval
  obtain ⟨v0, vs0, d0, ds0, p0, q0, hargs, rfl, rfl, h0, r0⟩ := trodAll_cons hA
  obtain ⟨v1, vs1, d1, ds1, p1, q1, rfl, rfl, rfl, h1, r1⟩ := trodAll_cons r0
  obtain ⟨rfl, rfl, rfl⟩ := trodAll_nil r1
  obtain rfl : args = #[v0, v1] := by cases args; simp_all
  rw [MakeChecks.laidMetH_plain _ _ _ (by kernel_rfl)] at hL
  obtain ⟨A, SV⟩ := sentVars (rest := []) hL
  have hlen := trodVars_len hV
  obtain ⟨gv1, gv2, gv3, gv4, gv5, gv6, gv7, gv8, rfl⟩ : ∃ gv1 gv2 gv3 gv4 gv5 gv6 gv7 gv8, gs = [gv1, gv2, gv3, gv4, gv5, gv6, gv7, gv8] := by
    match gs, hlen with
    | [gv1, gv2, gv3, gv4, gv5, gv6, gv7, gv8], _ => exact ⟨gv1, gv2, gv3, gv4, gv5, gv6, gv7, gv8, rfl⟩
  have k0 := h0
  have lt0 : ∀ x ∈ p0, x.block < W.heap.size := by obtain ⟨m, hm⟩ := k0; exact DataW.trod_lt m _ _ _ hm
  have k1 := h1
  have lt1 : ∀ x ∈ p1, x.block < W.heap.size := by obtain ⟨m, hm⟩ := k1; exact DataW.trod_lt m _ _ _ hm
  obtain ⟨s0, z0, c0, g0, rfl, hz0, hi0, hg0⟩ := open_octets Tryd.underlying22 Tryd.underlying5 (by kernel_rfl) (hval 0 22 v0 rfl rfl) h0
  obtain ⟨s1, z1, c1, g1, rfl, hz1, hi1, hg1⟩ := open_octets Tryd.underlying22 Tryd.underlying5 (by kernel_rfl) (hval 1 22 v1 rfl rfl) h1
  clear hA0 hval0 hV0
  refine (walk W s0 z0 c0 g0 (by simpa [maxLen] using hz0) hi0 hg0 s1 z1 c1 g1 (by simpa [maxLen] using hz1) hi1 hg1 A SV.sents).mono fun e W' ⟨he, bel⟩ => ?_
  subst he
  exact ⟨_, rfl, _, _, _, [], _, _, hW', trodAll_mk1 (shut_bool Tryd.underlying4 _), (trodAll_cons_mk (Below.trod laidOut (by kernel_rfl) (of_decide_eq_true (by kernel_rfl)) k0 bel lt0) (trodAll_cons_mk (Below.trod laidOut (by kernel_rfl) (of_decide_eq_true (by kernel_rfl)) k1 bel lt1) trodAll_mk0)), Below.trodVars laidOut bel (by kernel_rfl) hV, bel.frame _, fun h => by cases h⟩

theorem over : Rows.fnStoresRow.holds Tryd.pinned (OpenSpec.ofChange Rows.fnStoresSpec) :=
  OpenClaim.holds_of_wide 3 Tryd.f3 rfl rfl rfl rfl rfl rfl rfl ⟨rfl, rfl, rfl, rfl, rfl⟩ rfl rfl rfl rfl rfl (by kernel_rfl) Tryd.func3 (by kernel_rfl)
    (of_decide_eq_true (by kernel_rfl)) (by unfold Func.isWrapper; first | (rw [if_pos (by decide +kernel)]; kernel_rfl) | (rw [if_neg (by decide +kernel)]; exact ⟨rfl, rfl⟩))
    (fun os started H enc _ => lifted os started H enc)
theorem proved : Rows.FnStoresCardSaid :=
  Claim7.holds_tied_plain_at .later [] [.sentinel, .sentinel, .sentinel, .sentinel, .sentinel, .sentinel, .sentinel, .sentinel] true (true, "3d2a1b4714f0aa8a9fb950be43ec65c3a0c21ff642a559f57f0f2617afb82309") true
    over (fun _ h => by cases h) (by kernel_rfl) (fun _ h => by cases h) fnStores_row_tie rfl ⟨rfl, rfl⟩ (by kernel_rfl) rfl
    (fun f fn hf hfn => by
      obtain rfl : f = 3 := Option.some.inj ((show Tryd.prog.funcNamed "loop.example/g01338/laws.FnStores" = some 3 by kernel_rfl).symm.trans hf) |>.symm
      obtain rfl : fn = Tryd.f3 := (Option.some.inj (Tryd.func3.symm.trans hfn)).symm
      exact ⟨by kernel_rfl, fun j t ht => by
        rw [Tryd.params3] at ht
        have hm : t ∈ [22, 22] := by simpa using Array.mem_of_getElem? ht
        have hall : ([22, 22].all fun u => !Tryd.prog.wantsStandIn u) = true := by kernel_rfl
        exact (show Tryd.prog.wantsStandIn t = false by simpa using List.all_eq_true.1 hall t hm)⟩)
    (by kernel_rfl)
#print axioms proved
end Go.Proofs.YtifcaedbclgahaaDoor.lawStores
