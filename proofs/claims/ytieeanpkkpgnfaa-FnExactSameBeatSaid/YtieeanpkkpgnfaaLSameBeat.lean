/-
  SameBeat: for all arguments the program answers as the model does: no condition.
-/
import Derived.Test.YtieeanpkkpgnfaaSameB
import Derived.Test.YtieeanpkkpgnfaaLstH
import Derived.Test.YtieeanpkkpgnfaaOpen
import Derived.Test.YtieeanpkkpgnfaaRows
import Derived.ChangeOld
import Derived.Below
namespace Go.Proofs.Ytieeanpkkpgnfaa.lawSameBeat
open Go Go.ChangeShapes Go.WideShapes Go.ChangeAt Go.RowKit

theorem own : ownKnob Try.prog.godebug = none := by kernel_rfl
theorem laidOut : laidOutB Try.prog = true := by kernel_rfl
set_option maxRecDepth 100000 in
set_option maxHeartbeats 16000000 in
theorem walk (w : World) (sg : Option Addr) (zg cg : Nat) (g : Nat → Int) (hzg : zg ≤ 2 ^ 63 - 1) (hig : HJ w sg zg g) (hgg : WfH zg g) (sh : Option Addr) (zh ch : Nat) (h : Nat → Int) (hzh : zh ≤ 2 ^ 63 - 1) (hih : HJ w sh zh h) (hgh : WfH zh h) :
    Calls Try.prog 3 #[.slice sg zg cg, .slice sh zh ch] w fun e w' => e = .returned (.bool true) ∧ Below w.heap.size w w' := by
  have Hhig := Lib.hid hig
  have Hhgg := Lib.hid hgg
  have Hhih := Lib.hid hih
  have Hhgh := Lib.hid hgh
  clear hig hgg hih hgh
  by_cases hbg : 1048576 < zg
  · have tg : decide (1048576 < (zg : Int)) = true := decide_eq_true (by omega)
    go_enter Try.func3, Try.ntmps3
    go_wp2_with (fail)
    go_ret
    exact ⟨rfl, Below.refl _ _⟩
  have qg : zg ≤ 2 ^ 40 := by omega
  have tg : decide (1048576 < (zg : Int)) = false := decide_eq_false (by omega)
  by_cases hbh : 1048576 < zh
  · have th : decide (1048576 < (zh : Int)) = true := decide_eq_true (by omega)
    go_enter Try.func3, Try.ntmps3
    go_wp2_with (fail)
    go_ret
    exact ⟨rfl, Below.refl _ _⟩
  have qh : zh ≤ 2 ^ 40 := by omega
  have th : decide (1048576 < (zh : Int)) = false := decide_eq_false (by omega)
  obtain ⟨rv0, hrv0⟩ : ∃ res, (sameB zg g zh h) = res := ⟨_, rfl⟩
  have HR0 := Lib.hid hrv0
  clear hrv0
  go_enter Try.func3, Try.ntmps3
  have HB0 := Lib.hid (Below.refl w.heap.size w)
  have ok0_0 : True := trivial
  have ok0_1 : True := trivial
  have ok0_2 : True := trivial
  go_upto_region 6 with (first
    | (clear ok0_0; go_at_call 5; refine (Hto_any zg qg g sg cg _ (Hhig.out.later HB0.out)).mono ?_; rintro e W1 ⟨b3, rfl, i9, v10, u11, hb2⟩; have HB7 := Lib.hid (HB0.out.trans (hb2.mono HB0.out.size)); have z8 := hb2.size; have F4 := Lib.hid i9; have F5 := Lib.hid v10; have F6 := Lib.hid u11; clear hb2 i9 v10 u11 HB0)
    | (clear ok0_1; go_at_call 5; refine (Hto_any zh qh h sh ch _ (Hhih.out.later HB7.out)).mono ?_; rintro e W12 ⟨b14, rfl, i23, v24, u25, hb13⟩; have HB18 := Lib.hid (HB7.out.trans (hb13.mono HB7.out.size)); have z19 := hb13.size; have F20 := Lib.hid (F4.out.later hb13); have F21 := Lib.hid (F5.out.later hb13); have F22 := Lib.hid (F6.out.later hb13); have F15 := Lib.hid i23; have F16 := Lib.hid v24; have F17 := Lib.hid u25; clear hb13 i23 v24 u25 HB7 F4 F5 F6)
    | (clear ok0_2; go_at_call 4; refine (specSameBeat zg zh qg qh g h b3 b14 _ _ _ F20.out F15.out).mono ?_; rintro e W26 ⟨rfl, hb27⟩; rw [HR0.out]; have HB28 := Lib.hid (HB18.out.trans (hb27.mono HB18.out.size)); have z29 := hb27.size; clear hb27 HB18 F20 F21 F22 F15 F16 F17))
  go_upto_region 7 with (go_at_call 5; refine (Hto_any zg qg g sg cg _ (Hhig.out.later HB28.out)).mono ?_; rintro e W30 ⟨b32, rfl, i38, v39, u40, hb31⟩; have HB36 := Lib.hid (HB28.out.trans (hb31.mono HB28.out.size)); have z37 := hb31.size; have F33 := Lib.hid i38; have F34 := Lib.hid v39; have F35 := Lib.hid u40; clear hb31 i38 v39 u40 HB28)
  go_upto_region 8 with (go_at_call 5; refine (Hto_any zh qh h sh ch _ (Hhih.out.later HB36.out)).mono ?_; rintro e W41 ⟨b43, rfl, i52, v53, u54, hb42⟩; have HB47 := Lib.hid (HB36.out.trans (hb42.mono HB36.out.size)); have z48 := hb42.size; have F49 := Lib.hid (F33.out.later hb42); have F50 := Lib.hid (F34.out.later hb42); have F51 := Lib.hid (F35.out.later hb42); have F44 := Lib.hid i52; have F45 := Lib.hid v53; have F46 := Lib.hid u54; clear hb42 i52 v53 u54 HB36 F33 F34 F35)
  go_upto_region 11 with (go_at_call 6; refine (implSameBeat zg zh qg qh g h b32 b43 _ _ _ F49.out F44.out).mono ?_; rintro e W55 ⟨rfl, hb56⟩; rw [HR0.out]; have HB57 := Lib.hid (HB47.out.trans (hb56.mono HB47.out.size)); have z58 := hb56.size; have F59 := Lib.hid (F49.out.later hb56); have F60 := Lib.hid (F50.out.later hb56); have F61 := Lib.hid (F51.out.later hb56); have F62 := Lib.hid (F44.out.later hb56); have F63 := Lib.hid (F45.out.later hb56); have F64 := Lib.hid (F46.out.later hb56); clear hb56 HB47 F49 F50 F51 F44 F45 F46)
  have ok4_0 : True := trivial
  have ok4_1 : True := trivial
  go_upto_region 13 with (first
    | (clear ok4_0; go_at_call 5; refine (Hto_any zg qg g sg cg _ (Hhig.out.later HB57.out)).mono ?_; rintro e W65 ⟨b67, rfl, i79, v80, u81, hb66⟩; have HB71 := Lib.hid (HB57.out.trans (hb66.mono HB57.out.size)); have z72 := hb66.size; have F73 := Lib.hid (F59.out.later hb66); have F74 := Lib.hid (F60.out.later hb66); have F75 := Lib.hid (F61.out.later hb66); have F76 := Lib.hid (F62.out.later hb66); have F77 := Lib.hid (F63.out.later hb66); have F78 := Lib.hid (F64.out.later hb66); have F68 := Lib.hid i79; have F69 := Lib.hid v80; have F70 := Lib.hid u81; clear hb66 i79 v80 u81 HB57 F59 F60 F61 F62 F63 F64)
    | (clear ok4_1; go_at_call 7; refine (Heq_J _ qg _ _ _ _ _ _ F74.out.j F69.out.j).mono ?_; rintro e W82 ⟨rfl, hb83⟩; have HB84 := Lib.hid (HB71.out.trans (hb83.mono HB71.out.size)); have z85 := hb83.size; have F86 := Lib.hid (F76.out.later hb83); have F87 := Lib.hid (F77.out.later hb83); have F88 := Lib.hid (F78.out.later hb83); clear hb83 HB71 F73 F74 F75 F76 F77 F78 F68 F69 F70))
  have ok5_0 : True := trivial
  have ok5_1 : True := trivial
  go_wp2_with (first
    | (clear ok5_0; go_at_call 5; refine (Hto_any zh qh h sh ch _ (Hhih.out.later HB84.out)).mono ?_; rintro e W89 ⟨b91, rfl, i100, v101, u102, hb90⟩; have HB95 := Lib.hid (HB84.out.trans (hb90.mono HB84.out.size)); have z96 := hb90.size; have F97 := Lib.hid (F86.out.later hb90); have F98 := Lib.hid (F87.out.later hb90); have F99 := Lib.hid (F88.out.later hb90); have F92 := Lib.hid i100; have F93 := Lib.hid v101; have F94 := Lib.hid u102; clear hb90 i100 v101 u102 HB84 F86 F87 F88)
    | (clear ok5_1; go_at_call 7; refine (Heq_J _ qh _ _ _ _ _ _ F98.out.j F93.out.j).mono ?_; rintro e W103 ⟨rfl, hb104⟩; have HB105 := Lib.hid (HB95.out.trans (hb104.mono HB95.out.size)); have z106 := hb104.size; clear hb104 HB95 F97 F98 F99 F92 F93 F94))
  go_ret
  exact ⟨rfl, HB105.out⟩
set_option maxRecDepth 100000 in
theorem lifted (os : Os) (started : os.Started) (H : Type) (enc : TypeId × Value → H) :
    ReturnsInHanded {} Try.checked os 3 .any (Rows.fnExactSameBeatSpec.pre6 enc Try.prog Try.f3 Rows.fnExactSameBeatRow.domain false) (Rows.fnExactSameBeatSpec.post enc Try.prog Try.f3 false true false false) := by
  refine returnsInHanded_of_change (C := Try.checked) own started (by kernel_rfl) Try.func3
    (ChangeSpec.witness6 (enc := enc) (C := Try.checked) false ⟨#[], #[.slice none 0 0, .slice none 0 0], []⟩ 8 (by kernel_rfl) (by kernel_rfl) (by kernel_rfl) (by kernel_rfl)) ?_
  intro W base args ds gs before hval0 hW hcnd _
  have hval : ∀ (j : Nat) t v, Try.f3.params[j]? = some t → args[j]? = some v → Value.okWide Try.prog W .any base t v := hval0
  have hW' := hW
  obtain ⟨p, q, hA0, hV, rfl, hfz, hnd⟩ := hW
  have hA : DataW.TrodAll enc Try.prog W 0 (fun _ => true) true Try.f3.params.toList args.toList ds p := hA0
  rw [Try.params3] at hA hval
  obtain ⟨v0, vs0, d0, ds0, p0, q0, hargs, rfl, rfl, h0, r0⟩ := trodAll_cons hA
  obtain ⟨v1, vs1, d1, ds1, p1, q1, rfl, rfl, rfl, h1, r1⟩ := trodAll_cons r0
  obtain ⟨rfl, rfl, rfl⟩ := trodAll_nil r1
  obtain rfl : args = #[v0, v1] := by cases args; simp_all
  obtain ⟨rfl, rfl⟩ := trodVars_none hV
  have k0 := h0
  have lt0 : ∀ x ∈ p0, x.block < W.heap.size := by obtain ⟨m, hm⟩ := k0; exact DataW.trod_lt m _ _ _ hm
  have k1 := h1
  have lt1 : ∀ x ∈ p1, x.block < W.heap.size := by obtain ⟨m, hm⟩ := k1; exact DataW.trod_lt m _ _ _ hm
  obtain ⟨s0, z0, c0, g0, rfl, hz0, hi0, hg0⟩ := open_halves Try.underlying22 Try.underlying27 (by kernel_rfl) (hval 0 22 v0 rfl rfl) h0
  obtain ⟨s1, z1, c1, g1, rfl, hz1, hi1, hg1⟩ := open_halves Try.underlying22 Try.underlying27 (by kernel_rfl) (hval 1 22 v1 rfl rfl) h1
  clear hA0 hval0
  refine (walk W s0 z0 c0 g0 (by simpa [maxLen] using hz0) hi0 hg0 s1 z1 c1 g1 (by simpa [maxLen] using hz1) hi1 hg1).mono fun e W' ⟨he, bel⟩ => ?_
  subst he
  exact ⟨_, rfl, _, _, _, [], _, [], hW', trodAll_mk1 (shut_bool Try.underlying4 _), (trodAll_cons_mk (Below.trod laidOut (by kernel_rfl) (of_decide_eq_true (by kernel_rfl)) k0 bel lt0) (trodAll_cons_mk (Below.trod laidOut (by kernel_rfl) (of_decide_eq_true (by kernel_rfl)) k1 bel lt1) trodAll_mk0)), rfl, bel.frame _, fun h => by cases h⟩

theorem over : Rows.fnExactSameBeatRow.holds Try.pinned (OpenSpec.ofChange Rows.fnExactSameBeatSpec) :=
  OpenClaim.holds_of_wide 3 Try.f3 rfl rfl rfl rfl rfl rfl rfl ⟨rfl, rfl, rfl, rfl, rfl⟩ rfl rfl rfl rfl rfl (by kernel_rfl) Try.func3 (by kernel_rfl)
    (of_decide_eq_true (by kernel_rfl)) (by unfold Func.isWrapper; first | (rw [if_pos (by decide +kernel)]; kernel_rfl) | (rw [if_neg (by decide +kernel)]; exact ⟨rfl, rfl⟩))
    (fun os started H enc _ => lifted os started H enc)

theorem proved : Rows.FnExactSameBeatSaid := over
#print axioms proved
