/-
  CheckShifts: for all needs, every length and all starts the program answers as the model does: no condition beyond the listed sentinels, which the card ties to the program's text.
-/
import Derived.Test.YtieeanpkkpgnfaaDoorShfC
import Derived.Test.YtieeanpkkpgnfaaDoorSent
import Derived.Test.YtieeanpkkpgnfaaDoorCard
import Derived.Test.YtieeanpkkpgnfaaDoorTie
import Derived.Test.YtieeanpkkpgnfaaDoorCards
import Derived.SevenTiedAt
import Derived.OpenVars
namespace Go.Proofs.YtieeanpkkpgnfaaDoor.lawCheckShifts
open Go Go.ChangeShapes Go.WideShapes Go.ChangeAt Go.RowKit

set_option maxRecDepth 100000 in
set_option maxHeartbeats 8000000 in
theorem walk (w : World) (s : Option Addr) (z c : Nat) (g : Nat → Int) (hz : z ≤ 2 ^ 63 - 1) (hi : InJ w s z g) (hg : Wf64 z g) (x : Int) (wx : (Lit.int .i64 x).wf = true) (s2 : Option Addr) (z2 c2 : Nat) (h : Nat → Int) (hz2 : z2 ≤ 2 ^ 63 - 1) (hi2 : InJ w s2 z2 h) (hh : Wf64 z2 h) (A : Nat → Addr) (S0 : Sents w A) :
    Calls Tryd.prog 4 #[.slice s z c, .int .i64 x, .slice s2 z2 c2] w fun e w' => e = .returned (.bool true) ∧ Below w.heap.size w w' := by
  have hx := bounds_i64 wx
  have S : Hid (Sents w A) := Lib.hid S0
  have HI := Lib.hid hi
  have HI2 := Lib.hid hi2
  have HG := Lib.hid hg
  have HH := Lib.hid hh
  clear S0 hi hi2 hg hh
  by_cases hb1 : 1048576 < z
  · have t1 : decide (1048576 < (z : Int)) = true := decide_eq_true (by omega)
    go_enter Tryd.func4, Tryd.ntmps4
    go_wp2_with (fail)
    go_ret
    exact ⟨rfl, Below.refl _ _⟩
  by_cases hb2 : 1048576 < z2
  · have t1 : decide (1048576 < (z : Int)) = false := decide_eq_false (by omega)
    have t2 : decide (1048576 < (z2 : Int)) = true := decide_eq_true (by omega)
    go_enter Tryd.func4, Tryd.ntmps4
    go_wp2_with (fail)
    go_ret
    exact ⟨rfl, Below.refl _ _⟩
  have q1 : z ≤ 2 ^ 40 := by omega
  have q2 : z2 ≤ 2 ^ 40 := by omega
  have t1 : decide (1048576 < (z : Int)) = false := decide_eq_false (by omega)
  have t2 : decide (1048576 < (z2 : Int)) = false := decide_eq_false (by omega)
  have hB := Lib.hid (Below.refl w.heap.size w)

  obtain ⟨rv0, hrv0⟩ : ∃ y, (shOk g z x h z2 && (lackAt g z x h z2).isNone) = y := ⟨_, rfl⟩
  have HR0 := Lib.hid hrv0
  clear hrv0
  obtain ⟨rv1, hrv1⟩ : ∃ y, (shCode (shOk g z x h z2)) = y := ⟨_, rfl⟩
  have HR1 := Lib.hid hrv1
  clear hrv1
  go_enter Tryd.func4, Tryd.ntmps4
  have ok1 : True := trivial
  have ok2 : True := trivial
  go_upto_region 6 with (first
    | (clear ok1; go_at_call 8; refine (toInt64S_arg z q1 g s c _ HI.out).mono ?_; rintro e W1 ⟨b1, rfl, I1, hb⟩; have B1 := Lib.hid hb; have J1 := Lib.hid I1; clear hb I1)
    | (clear ok2; go_at_call 8; refine (toInt64S_arg z2 q2 h s2 c2 _ (HI2.out.later B1.out)).mono ?_; rintro e W2 ⟨b2, rfl, I2, hb⟩; have B2 := Lib.hid (B1.out.trans (hb.mono B1.out.size)); have J2 := Lib.hid I2; have J1b := Lib.hid (J1.out.later hb); clear hb I2)
    | (go_at_call 13; refine (specCheckShifts z q1 g x z2 q2 h b1 z b2 z2 _ J1b.out J2.out).mono ?_; rintro e W3 ⟨rfl, hb⟩; rw [HR0.out, HR1.out]; have B3 := Lib.hid (B2.out.trans (hb.mono B2.out.size)); clear hb))
  clear B1 B2 J1 J2 J1b
  go_upto_region 7 with (go_at_call 8; refine (toInt64S_arg z q1 g s c _ (HI.out.later B3.out)).mono ?_; rintro e W4 ⟨b4, rfl, I4, hb⟩; have B4 := Lib.hid (B3.out.trans (hb.mono B3.out.size)); have J4 := Lib.hid I4; clear hb I4)
  go_upto_region 8 with (go_at_call 8; refine (toInt64S_arg z2 q2 h s2 c2 _ (HI2.out.later B4.out)).mono ?_; rintro e W5 ⟨b5, rfl, I5, hb⟩; have B5 := Lib.hid (B4.out.trans (hb.mono B4.out.size)); have J5 := Lib.hid I5; have J4b := Lib.hid (J4.out.later hb); clear hb I5)
  go_upto_region 9 with (go_at_call 14; refine (implCheckShifts z q1 g HG.out x hx z2 q2 h HH.out b4 z b5 z2 A _ J4b.out J5.out (S.out.later B5.out)).mono ?_; rintro e W6 ⟨rfl, hb⟩; rw [HR0.out, HR1.out]; have B6 := Lib.hid (B5.out.trans (hb.mono B5.out.size)); have J4c := Lib.hid (J4b.out.later hb); have J5c := Lib.hid (J5.out.later hb); clear hb)
  clear B3 B4 B5 J4 J4b J5
  go_upto_region 13 with (first
    | (go_at_call 8; refine (toInt64S_arg z q1 g s c _ (HI.out.later B6.out)).mono ?_; rintro e W7 ⟨b7, rfl, I7, hb⟩; have B7 := Lib.hid (B6.out.trans (hb.mono B6.out.size)); have J7 := Lib.hid I7; have J4d := Lib.hid (J4c.out.later hb); have J5d := Lib.hid (J5c.out.later hb); clear hb I7)
    | (go_at_call 10; refine (eqInt64S_same z q1 g _ _ _ _ _ J4d.out J7.out).mono ?_; rintro e W8 ⟨rfl, hb⟩; have B8 := Lib.hid (B7.out.trans (hb.mono B7.out.size)); have J5e := Lib.hid (J5d.out.later hb); clear hb))
  go_wp2_with (first
    | (go_at_call 8; refine (toInt64S_arg z2 q2 h s2 c2 _ (HI2.out.later B8.out)).mono ?_; rintro e W9 ⟨b9, rfl, I9, hb⟩; have B9 := Lib.hid (B8.out.trans (hb.mono B8.out.size)); have J9 := Lib.hid I9; have J5f := Lib.hid (J5e.out.later hb); clear hb I9)
    | (go_at_call 10; refine (eqInt64S_same z2 q2 h _ _ _ _ _ J5f.out J9.out).mono ?_; rintro e W10 ⟨rfl, hb⟩; have B10 := Lib.hid (B9.out.trans (hb.mono B9.out.size)); clear hb))
  go_ret
  exact ⟨rfl, B10.out⟩
theorem trodVars_len {H : Type} {enc : TypeId × Value → H} {P : Program} {w : World} {sp : Nat → Bool} : ∀ {ns : List String} {gs : List (DataW H)} {ps : List MemPlace}, DataW.TrodVars enc P w sp ns gs ps → gs.length = ns.length
  | [], [], _, _ => rfl
  | [], _ :: _, _, h => h.elim
  | _ :: _, [], _, h => h.elim
  | _ :: _, _ :: _, _, ⟨_, _, _, _, _, _, _, _, _, _, h, _⟩ => congrArg (· + 1) (trodVars_len h)
theorem door_met (os : Os) (args : Array Value) : laidMetH Tryd.prog Rows.fnExactCheckShiftsRow.laid ((World.doorLaid Tryd.prog 400 os).forCall (fun _ _ => 0) ⟨#[], args, []⟩).memory :=
  laidMetH_of_parts3 (fuel := 8) (laidMet_of_run' 8 (by kernel_rfl) (by kernel_rfl)) (by kernel_rfl) (by kernel_rfl)
set_option maxRecDepth 100000 in
theorem lifted (os : Os) (started : os.Started) (H : Type) (enc : TypeId × Value → H) :
    ReturnsInHanded {} Tryd.checked os 4 .any (fun w args => (Rows.fnExactCheckShiftsSpec.pre enc Tryd.prog Tryd.f4 Rows.fnExactCheckShiftsRow.domain false w args ∧ laidMetH Tryd.prog Rows.fnExactCheckShiftsRow.laid w) ∧ sizedMet enc Tryd.prog Tryd.f4 (OpenSpec.ofChange Rows.fnExactCheckShiftsSpec) false w args) (Rows.fnExactCheckShiftsSpec.post enc Tryd.prog Tryd.f4 false true false false) := by
  refine returnsInHanded_of_change_and (C := Tryd.checked) (X := fun w _ => laidMetH Tryd.prog Rows.fnExactCheckShiftsRow.laid w) (fun _ _ _ hh h => h.of_heap hh) own started (by kernel_rfl) Tryd.func4
    (ChangeSpec.witness_shaped (enc := enc) (C := Tryd.checked) (os := os) (X := fun w _ => laidMetH Tryd.prog Rows.fnExactCheckShiftsRow.laid w) false (World.doorLaid Tryd.prog 400 os) #[.slice none 0 0, .int .i64 0, .slice none 0 0] 8 rfl (World.shaped_of_RefB (by kernel_rfl) (by kernel_rfl)) (by kernel_rfl) (by kernel_rfl) (by kernel_rfl) (door_met os _)) ?_
  intro W base args ds gs before hval0 hW _ _ hL _
  have hval : ∀ (j : Nat) t v, Tryd.f4.params[j]? = some t → args[j]? = some v → Value.okWide Tryd.prog W .any base t v := hval0
  have hW' := hW
  obtain ⟨p, q, hA0, hV0, rfl, hfz, hnd⟩ := hW
  have hA : DataW.TrodAll enc Tryd.prog W 0 (fun _ => true) true Tryd.f4.params.toList args.toList ds p := hA0
  have hV : DataW.TrodVars enc Tryd.prog W (fun _ => true) Rows.fnExactCheckShiftsSpec.vars gs q := hV0
  rw [Tryd.params4] at hA hval
  obtain ⟨v0, vs0, d0, ds0, p0, q0, hargs, rfl, rfl, h0, r0⟩ := trodAll_cons hA
  obtain ⟨v1, vs1, d1, ds1, p1, q1, rfl, rfl, rfl, h1, r1⟩ := trodAll_cons r0
  obtain ⟨v2, vs2, d2, ds2, p2, q2, rfl, rfl, rfl, h2, r2⟩ := trodAll_cons r1
  obtain ⟨rfl, rfl, rfl⟩ := trodAll_nil r2
  obtain rfl : args = #[v0, v1, v2] := by cases args; simp_all
  rw [MakeChecks.laidMetH_plain _ _ _ (by kernel_rfl)] at hL
  obtain ⟨A, SV⟩ := sentVars (rest := []) hL
  have hlen := trodVars_len hV
  obtain ⟨gv1, gv2, gv3, gv4, gv5, gv6, gv7, gv8, rfl⟩ : ∃ gv1 gv2 gv3 gv4 gv5 gv6 gv7 gv8, gs = [gv1, gv2, gv3, gv4, gv5, gv6, gv7, gv8] := by
    match gs, hlen with
    | [gv1, gv2, gv3, gv4, gv5, gv6, gv7, gv8], _ => exact ⟨gv1, gv2, gv3, gv4, gv5, gv6, gv7, gv8, rfl⟩
  have k0 := h0
  have lt0 : ∀ x ∈ p0, x.block < W.heap.size := by obtain ⟨m, hm⟩ := k0; exact DataW.trod_lt m _ _ _ hm
  have k1 := h1
  have lt1 : ∀ x ∈ p1, x.block < W.heap.size := by obtain ⟨m, hm⟩ := k1; exact DataW.trod_lt m _ _ _ hm
  have k2 := h2
  have lt2 : ∀ x ∈ p2, x.block < W.heap.size := by obtain ⟨m, hm⟩ := k2; exact DataW.trod_lt m _ _ _ hm
  obtain ⟨s0, z0, c0, g0, rfl, hz0, hi0, hg0⟩ := open_nums Tryd.underlying22 Tryd.underlying2 (by kernel_rfl) (hval 0 22 v0 rfl rfl) h0
  obtain ⟨n1, rfl, rfl, rfl, wn1⟩ := open_int Tryd.underlying2 (hval 1 2 v1 rfl rfl) h1
  obtain ⟨s2, z2, c2, g2, rfl, hz2, hi2, hg2⟩ := open_nums Tryd.underlying22 Tryd.underlying2 (by kernel_rfl) (hval 2 22 v2 rfl rfl) h2
  clear hA0 hval0 hV0
  refine (walk W s0 z0 c0 g0 (by simpa [maxLen] using hz0) hi0 hg0 n1 wn1 s2 z2 c2 g2 (by simpa [maxLen] using hz2) hi2 hg2 A SV.sents).mono fun e W' ⟨he, bel⟩ => ?_
  subst he
  exact ⟨_, rfl, _, _, _, [], _, _, hW', trodAll_mk1 (shut_bool Tryd.underlying4 _), (trodAll_cons_mk (Below.trod laidOut (by kernel_rfl) (of_decide_eq_true (by kernel_rfl)) k0 bel lt0) (trodAll_cons_mk (Below.trod laidOut (by kernel_rfl) (of_decide_eq_true (by kernel_rfl)) k1 bel lt1) (trodAll_cons_mk (Below.trod laidOut (by kernel_rfl) (of_decide_eq_true (by kernel_rfl)) k2 bel lt2) trodAll_mk0))), Below.trodVars laidOut bel (by kernel_rfl) hV, bel.frame _, fun h => by cases h⟩

theorem over : Rows.fnExactCheckShiftsRow.holds Tryd.pinned (OpenSpec.ofChange Rows.fnExactCheckShiftsSpec) :=
  OpenClaim.holds_of_wide 4 Tryd.f4 rfl rfl rfl rfl rfl rfl rfl ⟨rfl, rfl, rfl, rfl, rfl⟩ rfl rfl rfl rfl rfl (by kernel_rfl) Tryd.func4 (by kernel_rfl)
    (of_decide_eq_true (by kernel_rfl)) (by unfold Func.isWrapper; first | (rw [if_pos (by decide +kernel)]; kernel_rfl) | (rw [if_neg (by decide +kernel)]; exact ⟨rfl, rfl⟩))
    (fun os started H enc _ => lifted os started H enc)
theorem proved : Rows.FnExactCheckShiftsCardSaid :=
  Claim7.holds_tied_plain_at .later [] [.sentinel, .sentinel, .sentinel, .sentinel, .sentinel, .sentinel, .sentinel, .sentinel] true (true, "6190728dab7a944e10dcf74e1f38f25edd18419138cde596081d0e2d7db213ee") true
    over (fun _ h => by cases h) (by kernel_rfl) (fun _ h => by cases h) fnExactCheckShifts_row_tie rfl ⟨rfl, rfl⟩ (by kernel_rfl) rfl
    (fun f fn hf hfn => by
      obtain rfl : f = 4 := Option.some.inj ((show Tryd.prog.funcNamed "loop.example/g01338/laws.FnExactCheckShifts" = some 4 by kernel_rfl).symm.trans hf) |>.symm
      obtain rfl : fn = Tryd.f4 := (Option.some.inj (Tryd.func4.symm.trans hfn)).symm
      exact ⟨by kernel_rfl, fun j t ht => by
        rw [Tryd.params4] at ht
        have hm : t ∈ [22, 2, 22] := by simpa using Array.mem_of_getElem? ht
        have hall : ([22, 2, 22].all fun u => !Tryd.prog.wantsStandIn u) = true := by kernel_rfl
        exact (show Tryd.prog.wantsStandIn t = false by simpa using List.all_eq_true.1 hall t hm)⟩)
    (by kernel_rfl)
#print axioms proved
end Go.Proofs.YtieeanpkkpgnfaaDoor.lawCheckShifts
