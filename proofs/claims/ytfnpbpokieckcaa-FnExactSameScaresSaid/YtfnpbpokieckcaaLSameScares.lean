/-
  SameScares: for all lists of scarecrows, short or long, nil or not.
-/
import Derived.Test.YtfnpbpokieckcaaScrIn
import Derived.Test.YtfnpbpokieckcaaRows
import Derived.ChangeOld
import Derived.Below
namespace Go.Proofs.Ytfnpbpokieckcaa.lawSameScares
open Go Go.ChangeShapes Go.WideShapes Go.ChangeAt Go.RowKit

theorem own : ownKnob Try.prog.godebug = none := by kernel_rfl
theorem laidOut : laidOutB Try.prog = true := by kernel_rfl

theorem sz_big (n c : Nat) (hn : n ≤ 9223372036854775807) (p : Option Addr) (left : Int) (h0 : 0 ≤ left) (h2 : left ≤ 9223372036854775807) (h : left < n) (w : World) : Calls Try.prog 8 #[.slice p n c, .int .i64 left] w fun e w' => e = .returned (.int .i64 (-1)) ∧ w = w' := by
  have := szScarecrowS_any n c hn p left (by omega) (by omega) h2 w
  rwa [if_pos (by omega)] at this
theorem sz_small (n c : Nat) (hn : n ≤ 9223372036854775807) (p : Option Addr) (left : Int) (h0 : 0 ≤ left) (h2 : left ≤ 9223372036854775807) (h : (n : Int) ≤ left) (w : World) : Calls Try.prog 8 #[.slice p n c, .int .i64 left] w fun e w' => e = .returned (.int .i64 (left - n)) ∧ w = w' := by
  have := szScarecrowS_any n c hn p left (by omega) (by omega) h2 w
  rwa [if_neg (by omega)] at this

set_option maxRecDepth 100000 in
set_option maxHeartbeats 2000000 in
theorem walk (w : World) (p : Option Addr) (n c : Nat) (F : Nat → Nat → Int) (hn : n ≤ 9223372036854775807) (IA : InA ksScarecrow w p n F) (hF : WfS ksScarecrow n F) (q : Option Addr) (m d : Nat) (G : Nat → Nat → Int) (hm : m ≤ 9223372036854775807) (IB : InA ksScarecrow w q m G) (hG : WfS ksScarecrow m G) :
    Calls Try.prog 4 #[.slice p n c, .slice q m d] w fun e w' => e = .returned (.bool true) ∧ Below w.heap.size w w' := by
  have HA := Lib.hid IA
  have HB := Lib.hid IB
  clear IA IB
  go_enter Try.func4, Try.ntmps4
  by_cases h1 : (1048576 : Int) < n
  · go_wp2_with (go_at_call 8; refine (sz_big n c hn p 1048576 (by omega) (by omega) h1 _).mono ?_; rintro e w' ⟨rfl, rfl⟩)
    go_ret
    exact ⟨rfl, Below.refl _ _⟩
  have h1' : (n : Int) ≤ 1048576 := by omega
  have ok1 : True := trivial
  by_cases h2 : (1048576 : Int) - n < m
  · have ok2 : True := trivial
    go_wp2_with first
      | (clear ok1; go_at_call 8; refine (sz_small n c hn p 1048576 (by omega) (by omega) h1' _).mono ?_; rintro e w' ⟨rfl, rfl⟩)
      | (clear ok2; go_at_call 8; refine (sz_big m d hm q (1048576 - n) (by omega) (by omega) h2 _).mono ?_; rintro e w' ⟨rfl, rfl⟩)
    go_ret
    exact ⟨rfl, Below.refl _ _⟩
  have h2' : (m : Int) ≤ 1048576 - n := by omega
  clear h1 h2
  have ok2 : True := trivial
  have ok3 : True := trivial
  have ok4 : True := trivial
  have ok5 : True := trivial
  have ok6 : True := trivial
  have ok7 : True := trivial
  have ok8 : True := trivial
  have ok9 : True := trivial
  have ok10 : True := trivial
  have ok11 : True := trivial
  have ok12 : True := trivial
  go_wp2_with first
    | (clear ok1; go_at_call 8; refine (sz_small n c hn p 1048576 (by omega) (by omega) h1' _).mono ?_; rintro e w' ⟨rfl, rfl⟩)
    | (clear ok2; go_at_call 8; refine (sz_small m d hm q (1048576 - n) (by omega) (by omega) h2' _).mono ?_; rintro e w' ⟨rfl, rfl⟩)
    | (clear ok3; go_at_call 10; refine (toScarecrowS_arg n (by omega) F p c _ HA.out).mono ?_; rintro e w1 ⟨b1, rfl, J1, hb1⟩; have I1 := Lib.hid J1; clear J1; have B1 := Lib.hid hb1; have HA1 := Lib.hid (HA.out.later hb1); have HB1 := Lib.hid (HB.out.later hb1); clear HA HB hb1)
    | (clear ok4; go_at_call 10; refine (toScarecrowS_arg m (by omega) G q d _ HB1.out).mono ?_; rintro e w2 ⟨b2, rfl, J2, hb2⟩; have I2 := Lib.hid J2; clear J2; have I12 := Lib.hid (I1.out.later hb2); have B2 := Lib.hid (B1.out.trans (hb2.mono B1.out.size)); have HA2 := Lib.hid (HA1.out.later hb2); have HB2 := Lib.hid (HB1.out.later hb2); clear I1 B1 HA1 HB1 hb2)
    | (clear ok5; go_at_call 9; refine (specSameScares n m (by omega) (by omega) F G hF hG b1 b2 _ _ _ I12.out I2.out).mono ?_; rintro e w3 ⟨rfl, hb3⟩; have B3 := Lib.hid (B2.out.trans (hb3.mono B2.out.size)); have HA3 := Lib.hid (HA2.out.later hb3); have HB3 := Lib.hid (HB2.out.later hb3); clear I12 I2 B2 HA2 HB2 hb3)
    | (clear ok6; go_at_call 10; refine (toScarecrowS_arg n (by omega) F p c _ HA3.out).mono ?_; rintro e w4 ⟨b4, rfl, J4, hb4⟩; have I4 := Lib.hid J4; clear J4; have B4 := Lib.hid (B3.out.trans (hb4.mono B3.out.size)); have HA4 := Lib.hid (HA3.out.later hb4); have HB4 := Lib.hid (HB3.out.later hb4); clear B3 HA3 HB3 hb4)
    | (clear ok7; go_at_call 10; refine (toScarecrowS_arg m (by omega) G q d _ HB4.out).mono ?_; rintro e w5 ⟨b5, rfl, J5, hb5⟩; have I5 := Lib.hid J5; clear J5; have I45 := Lib.hid (I4.out.later hb5); have B5 := Lib.hid (B4.out.trans (hb5.mono B4.out.size)); have HA5 := Lib.hid (HA4.out.later hb5); have HB5 := Lib.hid (HB4.out.later hb5); clear I4 B4 HA4 HB4 hb5)
    | (clear ok8; go_at_call 11; refine (implSameScares n m (by omega) (by omega) F G hF hG b4 b5 _ _ _ I45.out I5.out).mono ?_; rintro e w6 ⟨rfl, hb6⟩; have I46 := Lib.hid (I45.out.later hb6); have I56 := Lib.hid (I5.out.later hb6); have B6 := Lib.hid (B5.out.trans (hb6.mono B5.out.size)); have HA6 := Lib.hid (HA5.out.later hb6); have HB6 := Lib.hid (HB5.out.later hb6); clear I45 I5 B5 HA5 HB5 hb6)
    | (clear ok9; go_at_call 10; refine (toScarecrowS_arg n (by omega) F p c _ HA6.out).mono ?_; rintro e w7 ⟨b7, rfl, J7, hb7⟩; have I7 := Lib.hid J7; clear J7; have I47 := Lib.hid (I46.out.later hb7); have I57 := Lib.hid (I56.out.later hb7); have B7 := Lib.hid (B6.out.trans (hb7.mono B6.out.size)); have HB7 := Lib.hid (HB6.out.later hb7); clear I46 I56 B6 HA6 HB6 hb7)
    | (clear ok10; go_at_call 12; refine (eqScarecrowS_same n (by omega) F b4 b7 _ _ _ I47.out I7.out).mono ?_; rintro e w8 ⟨rfl, hb8⟩; have I58 := Lib.hid (I57.out.later hb8); have B8 := Lib.hid (B7.out.trans (hb8.mono B7.out.size)); have HB8 := Lib.hid (HB7.out.later hb8); clear I47 I57 I7 B7 HB7 hb8)
    | (clear ok11; go_at_call 10; refine (toScarecrowS_arg m (by omega) G q d _ HB8.out).mono ?_; rintro e w9 ⟨b9, rfl, J9, hb9⟩; have I9 := Lib.hid J9; clear J9; have I59 := Lib.hid (I58.out.later hb9); have B9 := Lib.hid (B8.out.trans (hb9.mono B8.out.size)); clear I58 B8 HB8 hb9)
    | (clear ok12; go_at_call 12; refine (eqScarecrowS_same m (by omega) G b5 b9 _ _ _ I59.out I9.out).mono ?_; rintro e w10 ⟨rfl, hb10⟩; have B10 := Lib.hid (B9.out.trans (hb10.mono B9.out.size)); clear I59 I9 B9 hb10)
  go_ret
  exact ⟨rfl, B10.out⟩

set_option maxRecDepth 100000 in
theorem lifted (os : Os) (started : os.Started) (H : Type) (enc : TypeId × Value → H) :
    ReturnsInHanded {} Try.checked os 4 .any (Rows.fnExactSameScaresSpec.pre6 enc Try.prog Try.f4 Rows.fnExactSameScaresRow.domain false) (Rows.fnExactSameScaresSpec.post enc Try.prog Try.f4 false true false false) := by
  refine returnsInHanded_of_change (C := Try.checked) own started (by kernel_rfl) Try.func4
    (ChangeSpec.witness6 (enc := enc) (C := Try.checked) false ⟨#[], #[.slice none 0 0, .slice none 0 0], []⟩ 8 (by kernel_rfl) (by kernel_rfl) (by kernel_rfl) (by kernel_rfl)) ?_
  intro W base args ds gs before hval0 hW hcnd _
  have hval : ∀ (j : Nat) t v, Try.f4.params[j]? = some t → args[j]? = some v → Value.okWide Try.prog W .any base t v := hval0
  have hW' := hW
  obtain ⟨p, q, hA0, hV, rfl, hfz, hnd⟩ := hW
  have hA : DataW.TrodAll enc Try.prog W 0 (fun _ => true) true Try.f4.params.toList args.toList ds p := hA0
  rw [Try.params4] at hA hval
  obtain ⟨v0, vs0, d0, ds0, p0, q0, hargs, rfl, rfl, h0, r0⟩ := trodAll_cons hA
  obtain ⟨v1, vs1, d1, ds1, p1, q1, rfl, rfl, rfl, h1, r1⟩ := trodAll_cons r0
  obtain ⟨rfl, rfl, rfl⟩ := trodAll_nil r1
  obtain rfl : args = #[v0, v1] := by cases args; simp_all
  obtain ⟨rfl, rfl⟩ := trodVars_none hV
  have k0 := h0
  have lt0 : ∀ x ∈ p0, x.block < W.heap.size := by obtain ⟨m, hm⟩ := k0; exact DataW.trod_lt m _ _ _ hm
  have k1 := h1
  have lt1 : ∀ x ∈ p1, x.block < W.heap.size := by obtain ⟨m, hm⟩ := k1; exact DataW.trod_lt m _ _ _ hm
  obtain ⟨s0, z0, c0, G0, rfl, hz0, hi0, hg0⟩ := open_ints (ks := ksScarecrow) (fs := Try.prog.fieldsOf 43) Try.underlying32 (by kernel_rfl) (by decide) (by kernel_rfl) (by kernel_rfl) (hval 0 32 v0 rfl rfl) h0
  obtain ⟨s1, z1, c1, G1, rfl, hz1, hi1, hg1⟩ := open_ints (ks := ksScarecrow) (fs := Try.prog.fieldsOf 43) Try.underlying32 (by kernel_rfl) (by decide) (by kernel_rfl) (by kernel_rfl) (hval 1 32 v1 rfl rfl) h1
  clear hA0 hval0
  refine (walk W s0 z0 c0 G0 (by simpa [maxLen] using hz0) hi0 hg0 s1 z1 c1 G1 (by simpa [maxLen] using hz1) hi1 hg1).mono fun e W' ⟨he, bel⟩ => ?_
  subst he
  exact ⟨_, rfl, _, _, _, [], _, [], hW', trodAll_mk1 (shut_bool Try.underlying4 _), (trodAll_cons_mk (Below.trod laidOut (by kernel_rfl) (of_decide_eq_true (by kernel_rfl)) k0 bel lt0) (trodAll_cons_mk (Below.trod laidOut (by kernel_rfl) (of_decide_eq_true (by kernel_rfl)) k1 bel lt1) trodAll_mk0)), rfl, bel.frame _, fun h => by cases h⟩

theorem over : Rows.fnExactSameScaresRow.holds Try.pinned (OpenSpec.ofChange Rows.fnExactSameScaresSpec) :=
  OpenClaim.holds_of_wide 4 Try.f4 rfl rfl rfl rfl rfl rfl rfl ⟨rfl, rfl, rfl, rfl, rfl⟩ rfl rfl rfl rfl rfl (by kernel_rfl) Try.func4 (by kernel_rfl)
    (of_decide_eq_true (by kernel_rfl)) (by unfold Func.isWrapper; first | (rw [if_pos (by decide +kernel)]; kernel_rfl) | (rw [if_neg (by decide +kernel)]; exact ⟨rfl, rfl⟩))
    (fun os started H enc _ => lifted os started H enc)

theorem proved : Rows.FnExactSameScaresSaid := over
#print axioms proved
end Go.Proofs.Ytfnpbpokieckcaa.lawSameScares
