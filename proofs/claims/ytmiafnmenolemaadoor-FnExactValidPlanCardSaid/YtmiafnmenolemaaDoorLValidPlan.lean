/-
  ValidPlan: for all arguments the program answers as the model does: no condition beyond the listed sentinels, which the card ties to the program's text.
-/
import Derived.Test.YtmiafnmenolemaaDoorPlanS
import Derived.Test.YtmiafnmenolemaaDoorLstP
import Derived.Test.YtmiafnmenolemaaDoorLstN
import Derived.Test.YtmiafnmenolemaaDoorOpen
import Derived.Test.YtmiafnmenolemaaDoorCard1
import Derived.Test.YtmiafnmenolemaaDoorTie
import Derived.Test.YtmiafnmenolemaaDoorCards
import Derived.SevenTiedAt
import Derived.OpenVars
import Derived.ChangeOld
import Derived.Below
namespace Go.Proofs.YtmiafnmenolemaaDoor.lawValidPlan
open Go Go.ChangeShapes Go.WideShapes Go.ChangeAt Go.RowKit

set_option maxRecDepth 100000 in
set_option maxHeartbeats 16000000 in
theorem walk (w : World) (sl : Option Addr) (zl cl : Nat) (l : Nat → Nat → Int) (hzl : zl ≤ 2 ^ 63 - 1) (hil : InA ksPlot w sl zl l) (hgl : WfS ksPlot zl l) (x : Int) (wx : (Lit.int .i64 x).wf = true) (sh : Option Addr) (zh ch : Nat) (h : Nat → Int) (hzh : zh ≤ 2 ^ 63 - 1) (hih : InJ w sh zh h) (hgh : Wf64 zh h) (A : Nat → Addr) (S0 : Sent1 w A) :
    Calls Tryd.prog 6 #[.slice sl zl cl, .int .i64 x, .slice sh zh ch] w fun e w' => e = .returned (.bool true) ∧ Below w.heap.size w w' := by
  have S : Hid (Sent1 w A) := Lib.hid S0
  clear S0
  obtain ⟨x1, x2⟩ := bounds_i64 wx
  have Hhil := Lib.hid hil
  have Hhgl := Lib.hid hgl
  have Hhih := Lib.hid hih
  have Hhgh := Lib.hid hgh
  clear hil hgl hih hgh
  by_cases hbh : 1048576 < zh
  · have th : decide (1048576 < (zh : Int)) = true := decide_eq_true (by omega)
    go_enter Tryd.func6, Tryd.ntmps6
    go_wp2_with (fail)
    go_ret
    exact ⟨rfl, Below.refl _ _⟩
  have qh : zh ≤ 2 ^ 40 := by omega
  have th : decide (1048576 < (zh : Int)) = false := decide_eq_false (by omega)
  by_cases hbl : 1048576 < zl
  · have tl : decide (1048576 < (zl : Int)) = true := decide_eq_true (by omega)
    go_enter Tryd.func6, Tryd.ntmps6
    go_wp2_with (first | (go_at_call 10; refine (szPlotS_any zl cl (by omega) sl _ (by omega) (by omega) (by omega) _).mono ?_; rintro e w9 ⟨rfl, rfl⟩; rw [if_pos (by omega)]))
    go_ret
    exact ⟨rfl, Below.refl _ _⟩
  have ql : zl ≤ 2 ^ 40 := by omega
  have tl : decide (1048576 < (zl : Int)) = false := decide_eq_false (by omega)
  obtain ⟨rv0, hrv0⟩ : ∃ res, (planOk zl l x zh h) = res := ⟨_, rfl⟩
  have HR0 := Lib.hid hrv0
  clear hrv0
  go_enter Tryd.func6, Tryd.ntmps6
  have HB0 := Lib.hid (Below.refl w.heap.size w)
  go_upto_region 7 with (go_at_call 10; refine (szPlotS_any zl cl (by omega) sl _ (by omega) (by omega) (by omega) _).mono ?_; rintro e w9 ⟨rfl, rfl⟩; rw [if_neg (by omega)])
  have ok1_0 : True := trivial
  have ok1_1 : True := trivial
  have ok1_2 : True := trivial
  go_upto_region 8 with (first
    | (clear ok1_0; go_at_call 12; refine (Pto_any zl ql l sl cl _ (Hhil.out.later HB0.out)).mono ?_; rintro e W3 ⟨b5, rfl, i11, v12, u13, hb4⟩; have HB9 := Lib.hid (HB0.out.trans (hb4.mono HB0.out.size)); have z10 := hb4.size; have F6 := Lib.hid i11; have F7 := Lib.hid v12; have F8 := Lib.hid u13; clear hb4 i11 v12 u13 HB0)
    | (clear ok1_1; go_at_call 20; refine (Nto_any zh qh h sh ch _ (Hhih.out.later HB9.out)).mono ?_; rintro e W14 ⟨b16, rfl, i25, v26, u27, hb15⟩; have HB20 := Lib.hid (HB9.out.trans (hb15.mono HB9.out.size)); have z21 := hb15.size; have F22 := Lib.hid (F6.out.later hb15); have F23 := Lib.hid (F7.out.later hb15); have F24 := Lib.hid (F8.out.later hb15); have F17 := Lib.hid i25; have F18 := Lib.hid v26; have F19 := Lib.hid u27; clear hb15 i25 v26 u27 HB9 F6 F7 F8)
    | (clear ok1_2; go_at_call 19; refine (specValidPlan zl ql l (fun i h => wfp_row Hhgl.out h) b5 zl x zh qh h b16 zh _ F22.out F17.out).mono ?_; rintro e W28 ⟨rfl, hb29⟩; rw [HR0.out]; have HB30 := Lib.hid (HB20.out.trans (hb29.mono HB20.out.size)); have z31 := hb29.size; clear hb29 HB20 F22 F23 F24 F17 F18 F19))
  go_upto_region 9 with (go_at_call 12; refine (Pto_any zl ql l sl cl _ (Hhil.out.later HB30.out)).mono ?_; rintro e W32 ⟨b34, rfl, i40, v41, u42, hb33⟩; have HB38 := Lib.hid (HB30.out.trans (hb33.mono HB30.out.size)); have z39 := hb33.size; have F35 := Lib.hid i40; have F36 := Lib.hid v41; have F37 := Lib.hid u42; clear hb33 i40 v41 u42 HB30)
  go_upto_region 10 with (go_at_call 20; refine (Nto_any zh qh h sh ch _ (Hhih.out.later HB38.out)).mono ?_; rintro e W43 ⟨b45, rfl, i54, v55, u56, hb44⟩; have HB49 := Lib.hid (HB38.out.trans (hb44.mono HB38.out.size)); have z50 := hb44.size; have F51 := Lib.hid (F35.out.later hb44); have F52 := Lib.hid (F36.out.later hb44); have F53 := Lib.hid (F37.out.later hb44); have F46 := Lib.hid i54; have F47 := Lib.hid v55; have F48 := Lib.hid u56; clear hb44 i54 v55 u56 HB38 F35 F36 F37)
  go_upto_region 13 with (go_at_call 21; refine (implValidPlan zl ql l (fun i h => wfp_row Hhgl.out h) b34 zl x zh qh h b45 zh A _ F51.out F46.out (S.out.later HB49.out).v1).mono ?_; rintro e W57 ⟨rfl, hb58⟩; rw [HR0.out]; have HB59 := Lib.hid (HB49.out.trans (hb58.mono HB49.out.size)); have z60 := hb58.size; have F61 := Lib.hid (F51.out.later hb58); have F62 := Lib.hid (F52.out.later hb58); have F63 := Lib.hid (F53.out.later hb58); have F64 := Lib.hid (F46.out.later hb58); have F65 := Lib.hid (F47.out.later hb58); have F66 := Lib.hid (F48.out.later hb58); clear hb58 HB49 F51 F52 F53 F46 F47 F48)
  have ok5_0 : True := trivial
  have ok5_1 : True := trivial
  go_upto_region 15 with (first
    | (clear ok5_0; go_at_call 12; refine (Pto_any zl ql l sl cl _ (Hhil.out.later HB59.out)).mono ?_; rintro e W67 ⟨b69, rfl, i81, v82, u83, hb68⟩; have HB73 := Lib.hid (HB59.out.trans (hb68.mono HB59.out.size)); have z74 := hb68.size; have F75 := Lib.hid (F61.out.later hb68); have F76 := Lib.hid (F62.out.later hb68); have F77 := Lib.hid (F63.out.later hb68); have F78 := Lib.hid (F64.out.later hb68); have F79 := Lib.hid (F65.out.later hb68); have F80 := Lib.hid (F66.out.later hb68); have F70 := Lib.hid i81; have F71 := Lib.hid v82; have F72 := Lib.hid u83; clear hb68 i81 v82 u83 HB59 F61 F62 F63 F64 F65 F66)
    | (clear ok5_1; go_at_call 14; refine (Peq_J _ ql _ _ _ _ _ _ F76.out.j F71.out.j).mono ?_; rintro e W84 ⟨rfl, hb85⟩; have HB86 := Lib.hid (HB73.out.trans (hb85.mono HB73.out.size)); have z87 := hb85.size; have F88 := Lib.hid (F78.out.later hb85); have F89 := Lib.hid (F79.out.later hb85); have F90 := Lib.hid (F80.out.later hb85); clear hb85 HB73 F75 F76 F77 F78 F79 F80 F70 F71 F72))
  have ok6_0 : True := trivial
  have ok6_1 : True := trivial
  go_wp2_with (first
    | (clear ok6_0; go_at_call 20; refine (Nto_any zh qh h sh ch _ (Hhih.out.later HB86.out)).mono ?_; rintro e W91 ⟨b93, rfl, i102, v103, u104, hb92⟩; have HB97 := Lib.hid (HB86.out.trans (hb92.mono HB86.out.size)); have z98 := hb92.size; have F99 := Lib.hid (F88.out.later hb92); have F100 := Lib.hid (F89.out.later hb92); have F101 := Lib.hid (F90.out.later hb92); have F94 := Lib.hid i102; have F95 := Lib.hid v103; have F96 := Lib.hid u104; clear hb92 i102 v103 u104 HB86 F88 F89 F90)
    | (clear ok6_1; go_at_call 22; refine (Neq_J _ qh _ _ _ _ _ _ F100.out.j F95.out.j).mono ?_; rintro e W105 ⟨rfl, hb106⟩; have HB107 := Lib.hid (HB97.out.trans (hb106.mono HB97.out.size)); have z108 := hb106.size; clear hb106 HB97 F99 F100 F101 F94 F95 F96))
  go_ret
  exact ⟨rfl, HB107.out⟩
theorem trodVars_len {H : Type} {enc : TypeId × Value → H} {P : Program} {w : World} {sp : Nat → Bool} : ∀ {ns : List String} {gs : List (DataW H)} {ps : List MemPlace}, DataW.TrodVars enc P w sp ns gs ps → gs.length = ns.length
  | [], [], _, _ => rfl
  | [], _ :: _, _, h => h.elim
  | _ :: _, [], _, h => h.elim
  | _ :: _, _ :: _, _, ⟨_, _, _, _, _, _, _, _, _, _, h, _⟩ => congrArg (· + 1) (trodVars_len h)
theorem door_met (os : Os) (args : Array Value) : laidMetH Tryd.prog Rows.fnExactValidPlanRow.laid ((World.doorLaid Tryd.prog 400 os).forCall (fun _ _ => 0) ⟨#[], args, []⟩).memory :=
  laidMetH_of_parts3 (fuel := 8) (laidMet_of_run' 8 (by kernel_rfl) (by kernel_rfl)) (by kernel_rfl) (by kernel_rfl)
set_option maxRecDepth 100000 in
theorem lifted (os : Os) (started : os.Started) (H : Type) (enc : TypeId × Value → H) :
    ReturnsInHanded {} Tryd.checked os 6 .any (fun w args => (Rows.fnExactValidPlanSpec.pre enc Tryd.prog Tryd.f6 Rows.fnExactValidPlanRow.domain false w args ∧ laidMetH Tryd.prog Rows.fnExactValidPlanRow.laid w) ∧ sizedMet enc Tryd.prog Tryd.f6 (OpenSpec.ofChange Rows.fnExactValidPlanSpec) false w args) (Rows.fnExactValidPlanSpec.post enc Tryd.prog Tryd.f6 false true false false) := by
  refine returnsInHanded_of_change_and (C := Tryd.checked) (X := fun w _ => laidMetH Tryd.prog Rows.fnExactValidPlanRow.laid w) (fun _ _ _ hh h => h.of_heap hh) own started (by kernel_rfl) Tryd.func6
    (ChangeSpec.witness_shaped (enc := enc) (C := Tryd.checked) (os := os) (X := fun w _ => laidMetH Tryd.prog Rows.fnExactValidPlanRow.laid w) false (World.doorLaid Tryd.prog 400 os) #[.slice none 0 0, .int .i64 0, .slice none 0 0] 8 rfl (World.shaped_of_RefB (by kernel_rfl) (by kernel_rfl)) (by kernel_rfl) (by kernel_rfl) (by kernel_rfl) (door_met os _)) ?_
  intro W base args ds gs before hval0 hW _ _ hL _
  have hval : ∀ (j : Nat) t v, Tryd.f6.params[j]? = some t → args[j]? = some v → Value.okWide Tryd.prog W .any base t v := hval0
  have hW' := hW
  obtain ⟨p, q, hA0, hV0, rfl, hfz, hnd⟩ := hW
  have hA : DataW.TrodAll enc Tryd.prog W 0 (fun _ => true) true Tryd.f6.params.toList args.toList ds p := hA0
  have hV : DataW.TrodVars enc Tryd.prog W (fun _ => true) Rows.fnExactValidPlanSpec.vars gs q := hV0
  rw [Tryd.params6] at hA hval
  obtain ⟨v0, vs0, d0, ds0, p0, q0, hargs, rfl, rfl, h0, r0⟩ := trodAll_cons hA
  obtain ⟨v1, vs1, d1, ds1, p1, q1, rfl, rfl, rfl, h1, r1⟩ := trodAll_cons r0
  obtain ⟨v2, vs2, d2, ds2, p2, q2, rfl, rfl, rfl, h2, r2⟩ := trodAll_cons r1
  obtain ⟨rfl, rfl, rfl⟩ := trodAll_nil r2
  obtain rfl : args = #[v0, v1, v2] := by cases args; simp_all
  rw [MakeChecks.laidMetH_plain _ _ _ (by kernel_rfl)] at hL
  obtain ⟨A, S2⟩ := sent1_of hL
  have hlen := trodVars_len hV
  obtain ⟨gv1, rfl⟩ : ∃ gv1, gs = [gv1] := by
    match gs, hlen with
    | [gv1], _ => exact ⟨gv1, rfl⟩
  have k0 := h0
  have lt0 : ∀ x ∈ p0, x.block < W.heap.size := by obtain ⟨m, hm⟩ := k0; exact DataW.trod_lt m _ _ _ hm
  have k1 := h1
  have lt1 : ∀ x ∈ p1, x.block < W.heap.size := by obtain ⟨m, hm⟩ := k1; exact DataW.trod_lt m _ _ _ hm
  have k2 := h2
  have lt2 : ∀ x ∈ p2, x.block < W.heap.size := by obtain ⟨m, hm⟩ := k2; exact DataW.trod_lt m _ _ _ hm
  obtain ⟨s0, z0, c0, G0, rfl, hz0, hi0, hg0⟩ := open_ints (ks := ksPlot) (fs := Tryd.prog.fieldsOf 50) Tryd.underlying22 (by kernel_rfl) (by decide) (by kernel_rfl) (by kernel_rfl) (hval 0 22 v0 rfl rfl) h0
  obtain ⟨n1, rfl, rfl, rfl, wn1⟩ := open_int Tryd.underlying2 (hval 1 2 v1 rfl rfl) h1
  obtain ⟨s2, z2, c2, g2, rfl, hz2, hi2, hg2⟩ := open_nums Tryd.underlying34 Tryd.underlying2 (by kernel_rfl) (hval 2 34 v2 rfl rfl) h2
  clear hA0 hval0 hV0
  refine (walk W s0 z0 c0 G0 (by simpa [maxLen] using hz0) hi0 hg0 n1 wn1 s2 z2 c2 g2 (by simpa [maxLen] using hz2) hi2 hg2 A S2).mono fun e W' ⟨he, bel⟩ => ?_
  subst he
  exact ⟨_, rfl, _, _, _, [], _, _, hW', trodAll_mk1 (shut_bool Tryd.underlying4 _), (trodAll_cons_mk (Below.trod laidOut (by kernel_rfl) (of_decide_eq_true (by kernel_rfl)) k0 bel lt0) (trodAll_cons_mk (Below.trod laidOut (by kernel_rfl) (of_decide_eq_true (by kernel_rfl)) k1 bel lt1) (trodAll_cons_mk (Below.trod laidOut (by kernel_rfl) (of_decide_eq_true (by kernel_rfl)) k2 bel lt2) trodAll_mk0))), Below.trodVars laidOut bel (by kernel_rfl) hV, bel.frame _, fun h => by cases h⟩

theorem over : Rows.fnExactValidPlanRow.holds Tryd.pinned (OpenSpec.ofChange Rows.fnExactValidPlanSpec) :=
  OpenClaim.holds_of_wide 6 Tryd.f6 rfl rfl rfl rfl rfl rfl rfl ⟨rfl, rfl, rfl, rfl, rfl⟩ rfl rfl rfl rfl rfl (by kernel_rfl) Tryd.func6 (by kernel_rfl)
    (of_decide_eq_true (by kernel_rfl)) (by unfold Func.isWrapper; first | (rw [if_pos (by decide +kernel)]; kernel_rfl) | (rw [if_neg (by decide +kernel)]; exact ⟨rfl, rfl⟩))
    (fun os started H enc _ => lifted os started H enc)
theorem proved : Rows.FnExactValidPlanCardSaid :=
  Claim7.holds_tied_plain_at .later [] [.sentinel] true (true, "7af663af61bb54c2459743068fed09cb735603bb6d07a9a5a27d147f09b332ed") true
    over (fun _ h => by cases h) (by kernel_rfl) (fun _ h => by cases h) fnExactValidPlan_row_tie rfl ⟨rfl, rfl⟩ (by kernel_rfl) rfl
    (fun f fn hf hfn => by
      obtain rfl : f = 6 := Option.some.inj ((show Tryd.prog.funcNamed "loop.example/g01338/laws.FnExactValidPlan" = some 6 by kernel_rfl).symm.trans hf) |>.symm
      obtain rfl : fn = Tryd.f6 := (Option.some.inj (Tryd.func6.symm.trans hfn)).symm
      exact ⟨by kernel_rfl, fun j t ht => by
        rw [Tryd.params6] at ht
        have hm : t ∈ [22, 2, 34] := by simpa using Array.mem_of_getElem? ht
        have hall : ([22, 2, 34].all fun u => !Tryd.prog.wantsStandIn u) = true := by kernel_rfl
        exact (show Tryd.prog.wantsStandIn t = false by simpa using List.all_eq_true.1 hall t hm)⟩)
    (by kernel_rfl)
#print axioms proved
end Go.Proofs.YtmiafnmenolemaaDoor.lawValidPlan
