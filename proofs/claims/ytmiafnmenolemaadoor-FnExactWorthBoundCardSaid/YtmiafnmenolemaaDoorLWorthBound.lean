/-
  WorthBound: for all arguments the program answers as the model does: no condition beyond the listed sentinels, which the card ties to the program's text.
-/
import Derived.Test.YtmiafnmenolemaaDoorBoundP
import Derived.Test.YtmiafnmenolemaaDoorLstP
import Derived.Test.YtmiafnmenolemaaDoorOpen
import Derived.Test.YtmiafnmenolemaaDoorCard
import Derived.Test.YtmiafnmenolemaaDoorTie
import Derived.Test.YtmiafnmenolemaaDoorCards
import Derived.SevenTiedAt
import Derived.OpenVars
import Derived.ChangeOld
import Derived.Below
namespace Go.Proofs.YtmiafnmenolemaaDoor.lawWorthBound
open Go Go.ChangeShapes Go.WideShapes Go.ChangeAt Go.RowKit

set_option maxRecDepth 100000 in
set_option maxHeartbeats 16000000 in
theorem walk (w : World) (sl : Option Addr) (zl cl : Nat) (l : Nat → Nat → Int) (hzl : zl ≤ 2 ^ 63 - 1) (hil : InA ksPlot w sl zl l) (hgl : WfS ksPlot zl l) (d : Int) (wd : (Lit.int .i64 d).wf = true) (A : Nat → Addr) (S0 : Sents w A) :
    Calls Tryd.prog 9 #[.slice sl zl cl, .int .i64 d] w fun e w' => e = .returned (.bool true) ∧ Below w.heap.size w w' := by
  have S : Hid (Sents w A) := Lib.hid S0
  clear S0
  obtain ⟨d1, d2⟩ := bounds_i64 wd
  have Hhil := Lib.hid hil
  have Hhgl := Lib.hid hgl
  clear hil hgl
  by_cases hbl : 1048576 < zl
  · have tl : decide (1048576 < (zl : Int)) = true := decide_eq_true (by omega)
    go_enter Tryd.func9, Tryd.ntmps9
    go_wp2_with (first | (go_at_call 10; refine (szPlotS_any zl cl (by omega) sl _ (by omega) (by omega) (by omega) _).mono ?_; rintro e w9 ⟨rfl, rfl⟩; rw [if_pos (by omega)]))
    go_ret
    exact ⟨rfl, Below.refl _ _⟩
  have ql : zl ≤ 2 ^ 40 := by omega
  have tl : decide (1048576 < (zl : Int)) = false := decide_eq_false (by omega)
  obtain ⟨rv0, hrv0⟩ : ∃ res, (boundVal zl l d) = res := ⟨_, rfl⟩
  have HR0 := Lib.hid hrv0
  clear hrv0
  obtain ⟨rv1, hrv1⟩ : ∃ res, (plotsAsk zl l (inB d 1 20)) = res := ⟨_, rfl⟩
  have HR1 := Lib.hid hrv1
  clear hrv1
  go_enter Tryd.func9, Tryd.ntmps9
  have HB0 := Lib.hid (Below.refl w.heap.size w)
  go_upto_region 5 with (go_at_call 10; refine (szPlotS_any zl cl (by omega) sl _ (by omega) (by omega) (by omega) _).mono ?_; rintro e w9 ⟨rfl, rfl⟩; rw [if_neg (by omega)])
  have ok1_0 : True := trivial
  have ok1_1 : True := trivial
  go_upto_region 6 with (first
    | (clear ok1_0; go_at_call 12; refine (Pto_any zl ql l sl cl _ (Hhil.out.later HB0.out)).mono ?_; rintro e W3 ⟨b5, rfl, i11, v12, u13, hb4⟩; have HB9 := Lib.hid (HB0.out.trans (hb4.mono HB0.out.size)); have z10 := hb4.size; have F6 := Lib.hid i11; have F7 := Lib.hid v12; have F8 := Lib.hid u13; clear hb4 i11 v12 u13 HB0)
    | (clear ok1_1; go_at_call 30; refine (specWorthBound zl ql l (fun i h => wfp_row Hhgl.out h) b5 zl d _ F6.out).mono ?_; rintro e W14 ⟨rfl, hb15⟩; rw [HR0.out, HR1.out]; have HB16 := Lib.hid (HB9.out.trans (hb15.mono HB9.out.size)); have z17 := hb15.size; clear hb15 HB9 F6 F7 F8))
  go_upto_region 7 with (go_at_call 12; refine (Pto_any zl ql l sl cl _ (Hhil.out.later HB16.out)).mono ?_; rintro e W18 ⟨b20, rfl, i26, v27, u28, hb19⟩; have HB24 := Lib.hid (HB16.out.trans (hb19.mono HB16.out.size)); have z25 := hb19.size; have F21 := Lib.hid i26; have F22 := Lib.hid v27; have F23 := Lib.hid u28; clear hb19 i26 v27 u28 HB16)
  go_upto_region 10 with (go_at_call 31; refine (implWorthBound zl ql l (fun i h => wfp_row Hhgl.out h) b20 zl d A _ F21.out (S.out.later HB24.out)).mono ?_; rintro e W29 ⟨rfl, hb30⟩; rw [HR0.out, HR1.out]; have HB31 := Lib.hid (HB24.out.trans (hb30.mono HB24.out.size)); have z32 := hb30.size; have F33 := Lib.hid (F21.out.later hb30); have F34 := Lib.hid (F22.out.later hb30); have F35 := Lib.hid (F23.out.later hb30); clear hb30 HB24 F21 F22 F23)
  have ok4_0 : True := trivial
  have ok4_1 : True := trivial
  go_wp2_with (first
    | (clear ok4_0; go_at_call 12; refine (Pto_any zl ql l sl cl _ (Hhil.out.later HB31.out)).mono ?_; rintro e W36 ⟨b38, rfl, i47, v48, u49, hb37⟩; have HB42 := Lib.hid (HB31.out.trans (hb37.mono HB31.out.size)); have z43 := hb37.size; have F44 := Lib.hid (F33.out.later hb37); have F45 := Lib.hid (F34.out.later hb37); have F46 := Lib.hid (F35.out.later hb37); have F39 := Lib.hid i47; have F40 := Lib.hid v48; have F41 := Lib.hid u49; clear hb37 i47 v48 u49 HB31 F33 F34 F35)
    | (clear ok4_1; go_at_call 14; refine (Peq_J _ ql _ _ _ _ _ _ F45.out.j F40.out.j).mono ?_; rintro e W50 ⟨rfl, hb51⟩; have HB52 := Lib.hid (HB42.out.trans (hb51.mono HB42.out.size)); have z53 := hb51.size; clear hb51 HB42 F44 F45 F46 F39 F40 F41))
  go_ret
  exact ⟨rfl, HB52.out⟩
theorem trodVars_len {H : Type} {enc : TypeId × Value → H} {P : Program} {w : World} {sp : Nat → Bool} : ∀ {ns : List String} {gs : List (DataW H)} {ps : List MemPlace}, DataW.TrodVars enc P w sp ns gs ps → gs.length = ns.length
  | [], [], _, _ => rfl
  | [], _ :: _, _, h => h.elim
  | _ :: _, [], _, h => h.elim
  | _ :: _, _ :: _, _, ⟨_, _, _, _, _, _, _, _, _, _, h, _⟩ => congrArg (· + 1) (trodVars_len h)
theorem door_met (os : Os) (args : Array Value) : laidMetH Tryd.prog Rows.fnExactWorthBoundRow.laid ((World.doorLaid Tryd.prog 400 os).forCall (fun _ _ => 0) ⟨#[], args, []⟩).memory :=
  laidMetH_of_parts3 (fuel := 8) (laidMet_of_run' 8 (by kernel_rfl) (by kernel_rfl)) (by kernel_rfl) (by kernel_rfl)
set_option maxRecDepth 100000 in
theorem lifted (os : Os) (started : os.Started) (H : Type) (enc : TypeId × Value → H) :
    ReturnsInHanded {} Tryd.checked os 9 .any (fun w args => (Rows.fnExactWorthBoundSpec.pre enc Tryd.prog Tryd.f9 Rows.fnExactWorthBoundRow.domain false w args ∧ laidMetH Tryd.prog Rows.fnExactWorthBoundRow.laid w) ∧ sizedMet enc Tryd.prog Tryd.f9 (OpenSpec.ofChange Rows.fnExactWorthBoundSpec) false w args) (Rows.fnExactWorthBoundSpec.post enc Tryd.prog Tryd.f9 false true false false) := by
  refine returnsInHanded_of_change_and (C := Tryd.checked) (X := fun w _ => laidMetH Tryd.prog Rows.fnExactWorthBoundRow.laid w) (fun _ _ _ hh h => h.of_heap hh) own started (by kernel_rfl) Tryd.func9
    (ChangeSpec.witness_shaped (enc := enc) (C := Tryd.checked) (os := os) (X := fun w _ => laidMetH Tryd.prog Rows.fnExactWorthBoundRow.laid w) false (World.doorLaid Tryd.prog 400 os) #[.slice none 0 0, .int .i64 0] 8 rfl (World.shaped_of_RefB (by kernel_rfl) (by kernel_rfl)) (by kernel_rfl) (by kernel_rfl) (by kernel_rfl) (door_met os _)) ?_
  intro W base args ds gs before hval0 hW _ _ hL _
  have hval : ∀ (j : Nat) t v, Tryd.f9.params[j]? = some t → args[j]? = some v → Value.okWide Tryd.prog W .any base t v := hval0
  have hW' := hW
  obtain ⟨p, q, hA0, hV0, rfl, hfz, hnd⟩ := hW
  have hA : DataW.TrodAll enc Tryd.prog W 0 (fun _ => true) true Tryd.f9.params.toList args.toList ds p := hA0
  have hV : DataW.TrodVars enc Tryd.prog W (fun _ => true) Rows.fnExactWorthBoundSpec.vars gs q := hV0
  rw [Tryd.params9] at hA hval
  obtain ⟨v0, vs0, d0, ds0, p0, q0, hargs, rfl, rfl, h0, r0⟩ := trodAll_cons hA
  obtain ⟨v1, vs1, d1, ds1, p1, q1, rfl, rfl, rfl, h1, r1⟩ := trodAll_cons r0
  obtain ⟨rfl, rfl, rfl⟩ := trodAll_nil r1
  obtain rfl : args = #[v0, v1] := by cases args; simp_all
  rw [MakeChecks.laidMetH_plain _ _ _ (by kernel_rfl)] at hL
  obtain ⟨A, SV⟩ := sentVars (rest := []) hL
  have hlen := trodVars_len hV
  obtain ⟨gv1, gv2, gv3, gv4, gv5, gv6, gv7, gv8, rfl⟩ : ∃ gv1 gv2 gv3 gv4 gv5 gv6 gv7 gv8, gs = [gv1, gv2, gv3, gv4, gv5, gv6, gv7, gv8] := by
    match gs, hlen with
    | [gv1, gv2, gv3, gv4, gv5, gv6, gv7, gv8], _ => exact ⟨gv1, gv2, gv3, gv4, gv5, gv6, gv7, gv8, rfl⟩
  have k0 := h0
  have lt0 : ∀ x ∈ p0, x.block < W.heap.size := by obtain ⟨m, hm⟩ := k0; exact DataW.trod_lt m _ _ _ hm
  have k1 := h1
  have lt1 : ∀ x ∈ p1, x.block < W.heap.size := by obtain ⟨m, hm⟩ := k1; exact DataW.trod_lt m _ _ _ hm
  obtain ⟨s0, z0, c0, G0, rfl, hz0, hi0, hg0⟩ := open_ints (ks := ksPlot) (fs := Tryd.prog.fieldsOf 50) Tryd.underlying22 (by kernel_rfl) (by decide) (by kernel_rfl) (by kernel_rfl) (hval 0 22 v0 rfl rfl) h0
  obtain ⟨n1, rfl, rfl, rfl, wn1⟩ := open_int Tryd.underlying2 (hval 1 2 v1 rfl rfl) h1
  clear hA0 hval0 hV0
  refine (walk W s0 z0 c0 G0 (by simpa [maxLen] using hz0) hi0 hg0 n1 wn1 A SV.sents).mono fun e W' ⟨he, bel⟩ => ?_
  subst he
  exact ⟨_, rfl, _, _, _, [], _, _, hW', trodAll_mk1 (shut_bool Tryd.underlying4 _), (trodAll_cons_mk (Below.trod laidOut (by kernel_rfl) (of_decide_eq_true (by kernel_rfl)) k0 bel lt0) (trodAll_cons_mk (Below.trod laidOut (by kernel_rfl) (of_decide_eq_true (by kernel_rfl)) k1 bel lt1) trodAll_mk0)), Below.trodVars laidOut bel (by kernel_rfl) hV, bel.frame _, fun h => by cases h⟩

theorem over : Rows.fnExactWorthBoundRow.holds Tryd.pinned (OpenSpec.ofChange Rows.fnExactWorthBoundSpec) :=
  OpenClaim.holds_of_wide 9 Tryd.f9 rfl rfl rfl rfl rfl rfl rfl ⟨rfl, rfl, rfl, rfl, rfl⟩ rfl rfl rfl rfl rfl (by kernel_rfl) Tryd.func9 (by kernel_rfl)
    (of_decide_eq_true (by kernel_rfl)) (by unfold Func.isWrapper; first | (rw [if_pos (by decide +kernel)]; kernel_rfl) | (rw [if_neg (by decide +kernel)]; exact ⟨rfl, rfl⟩))
    (fun os started H enc _ => lifted os started H enc)
theorem proved : Rows.FnExactWorthBoundCardSaid :=
  Claim7.holds_tied_plain_at .later [] [.sentinel, .sentinel, .sentinel, .sentinel, .sentinel, .sentinel, .sentinel, .sentinel] true (true, "7af663af61bb54c2459743068fed09cb735603bb6d07a9a5a27d147f09b332ed") true
    over (fun _ h => by cases h) (by kernel_rfl) (fun _ h => by cases h) fnExactWorthBound_row_tie rfl ⟨rfl, rfl⟩ (by kernel_rfl) rfl
    (fun f fn hf hfn => by
      obtain rfl : f = 9 := Option.some.inj ((show Tryd.prog.funcNamed "loop.example/g01338/laws.FnExactWorthBound" = some 9 by kernel_rfl).symm.trans hf) |>.symm
      obtain rfl : fn = Tryd.f9 := (Option.some.inj (Tryd.func9.symm.trans hfn)).symm
      exact ⟨by kernel_rfl, fun j t ht => by
        rw [Tryd.params9] at ht
        have hm : t ∈ [22, 2] := by simpa using Array.mem_of_getElem? ht
        have hall : ([22, 2].all fun u => !Tryd.prog.wantsStandIn u) = true := by kernel_rfl
        exact (show Tryd.prog.wantsStandIn t = false by simpa using List.all_eq_true.1 hall t hm)⟩)
    (by kernel_rfl)
#print axioms proved
end Go.Proofs.YtmiafnmenolemaaDoor.lawWorthBound
