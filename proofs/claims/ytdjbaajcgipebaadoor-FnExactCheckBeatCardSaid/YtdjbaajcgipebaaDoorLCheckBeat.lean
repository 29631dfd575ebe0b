/-
  CheckBeat: for all arguments the program answers as the model does: no condition beyond the listed sentinels, which the card ties to the program's text.
-/
import Derived.Test.YtdjbaajcgipebaaDoorCkB
import Derived.Test.YtdjbaajcgipebaaDoorLstH
import Derived.Test.YtdjbaajcgipebaaDoorLstN
import Derived.Test.YtdjbaajcgipebaaDoorLawh
import Derived.Test.YtdjbaajcgipebaaDoorOpen
import Derived.Test.YtdjbaajcgipebaaDoorCard
import Derived.Test.YtdjbaajcgipebaaDoorTie
import Derived.Test.YtdjbaajcgipebaaDoorCards
import Derived.SevenTiedAt
import Derived.OpenVars
import Derived.ChangeOld
import Derived.Below
namespace Go.Proofs.YtdjbaajcgipebaaDoor.lawCheckBeat
open Go Go.ChangeShapes Go.WideShapes Go.ChangeAt Go.RowKit

set_option maxRecDepth 100000 in
set_option maxHeartbeats 16000000 in
theorem walk (w : World) (f : Fd) (hff : f.Wf) (sg : Option Addr) (zg cg : Nat) (g : Nat → Int) (hzg : zg ≤ 2 ^ 63 - 1) (hig : HJ w sg zg g) (hgg : WfH zg g) (x : Int) (wx : (Lit.int .i64 x).wf = true) (sh : Option Addr) (zh ch : Nat) (h : Nat → Int) (hzh : zh ≤ 2 ^ 63 - 1) (hih : InJ w sh zh h) (hgh : Wf64 zh h) (A : Nat → Addr) (S0 : Sents w A) :
    Calls Tryd.prog 10 #[.agg (fcells f), .slice sg zg cg, .int .i64 x, .slice sh zh ch] w fun e w' => e = .returned (.bool true) ∧ Below w.heap.size w w' := by
  have S : Hid (Sents w A) := Lib.hid S0
  clear S0
  obtain ⟨x1, x2⟩ := bounds_i64 wx
  have Hhig := Lib.hid hig
  have Hhgg := Lib.hid hgg
  have Hhih := Lib.hid hih
  have Hhgh := Lib.hid hgh
  clear hig hgg hih hgh
  by_cases hbg : 1048576 < zg
  · have tg : decide (1048576 < (zg : Int)) = true := decide_eq_true (by omega)
    go_enter Tryd.func10, Tryd.ntmps10
    go_upto_region 1 with (fail)
    obtain ⟨W0, hW, M0⟩ := open1 w (fcells f) 27
    rw [hW]; clear hW
    go_wp2_with (fail)
    go_ret
    exact ⟨rfl, M0.below⟩
  have qg : zg ≤ 2 ^ 40 := by omega
  have tg : decide (1048576 < (zg : Int)) = false := decide_eq_false (by omega)
  by_cases hbh : 1048576 < zh
  · have th : decide (1048576 < (zh : Int)) = true := decide_eq_true (by omega)
    go_enter Tryd.func10, Tryd.ntmps10
    go_upto_region 1 with (fail)
    obtain ⟨W0, hW, M0⟩ := open1 w (fcells f) 27
    rw [hW]; clear hW
    go_wp2_with (fail)
    go_ret
    exact ⟨rfl, M0.below⟩
  have qh : zh ≤ 2 ^ 40 := by omega
  have th : decide (1048576 < (zh : Int)) = false := decide_eq_false (by omega)
  obtain ⟨rv0, hrv0⟩ : ∃ res, (ckVal f zg g x zh h) = res := ⟨_, rfl⟩
  have HR0 := Lib.hid hrv0
  clear hrv0
  obtain ⟨rv1, hrv1⟩ : ∃ res, (ckCode f zg g x zh h) = res := ⟨_, rfl⟩
  have HR1 := Lib.hid hrv1
  clear hrv1
  go_enter Tryd.func10, Tryd.ntmps10
  go_upto_region 1 with (fail)
  obtain ⟨W0, hW, M0⟩ := open1 w (fcells f) 27
  rw [hW]; clear hW
  have HM0 := Lib.hid M0.before
  have z0 : w.heap.size ≤ W0.heap.size := M0.below.size
  have ok0_0 : True := trivial
  have ok0_1 : True := trivial
  have ok0_2 : True := trivial
  have ok0_3 : True := trivial
  have ok0_4 : True := trivial
  go_upto_region 6 with (first
    | (clear ok0_0; refine wpList_load_part rfl 27 _ rfl (w.heap.size) 0 rfl (fcells f) _ (M0.at 0 rfl).whole Tryd.underlying27 rfl (by rw [fcells_size]; exact sizeFl) ?_)
    | (clear ok0_1; go_at_call 12; refine (toField _ _).mono ?_; rintro e W1 ⟨rfl, hb2⟩; have M3 := M0.call hb2; have z4 := hb2.size; clear hb2 M0)
    | (clear ok0_2; go_at_call 13; refine (Hto_any zg qg g sg cg _ (Hhig.out.later M3.below)).mono ?_; rintro e W5 ⟨b7, rfl, i13, v14, u15, hb6⟩; have M11 := M3.call hb6; have z12 := hb6.size; have F8 := Lib.hid i13; have F9 := Lib.hid v14; have F10 := Lib.hid u15; clear hb6 i13 v14 u15 M3)
    | (clear ok0_3; go_at_call 35; refine (Nto_any zh qh h sh ch _ (Hhih.out.later M11.below)).mono ?_; rintro e W16 ⟨b18, rfl, i27, v28, u29, hb17⟩; have M22 := M11.call hb17; have z23 := hb17.size; have F24 := Lib.hid (F8.out.later hb17); have F25 := Lib.hid (F9.out.later hb17); have F26 := Lib.hid (F10.out.later hb17); have F19 := Lib.hid i27; have F20 := Lib.hid v28; have F21 := Lib.hid u29; clear hb17 i27 v28 u29 M11 F8 F9 F10)
    | (clear ok0_4; go_at_call 34; refine (specCheckBeat f hff zg qg g Hhgg.out x zh qh h b7 _ b18 _ _ F24.out F19.out).mono ?_; rintro e W30 ⟨rfl, hb31⟩; rw [HR0.out, HR1.out]; have M32 := M22.call hb31; have z33 := hb31.size; clear hb31 M22 F24 F25 F26 F19 F20 F21))
  go_upto_region 7 with (go_at_call 13; refine (Hto_any zg qg g sg cg _ (Hhig.out.later M32.below)).mono ?_; rintro e W34 ⟨b36, rfl, i42, v43, u44, hb35⟩; have M40 := M32.call hb35; have z41 := hb35.size; have F37 := Lib.hid i42; have F38 := Lib.hid v43; have F39 := Lib.hid u44; clear hb35 i42 v43 u44 M32)
  go_upto_region 8 with (go_at_call 35; refine (Nto_any zh qh h sh ch _ (Hhih.out.later M40.below)).mono ?_; rintro e W45 ⟨b47, rfl, i56, v57, u58, hb46⟩; have M51 := M40.call hb46; have z52 := hb46.size; have F53 := Lib.hid (F37.out.later hb46); have F54 := Lib.hid (F38.out.later hb46); have F55 := Lib.hid (F39.out.later hb46); have F48 := Lib.hid i56; have F49 := Lib.hid v57; have F50 := Lib.hid u58; clear hb46 i56 v57 u58 M40 F37 F38 F39)
  have ok3_0 : True := trivial
  have ok3_1 : True := trivial
  have ok3_2 : True := trivial
  go_upto_region 11 with (first
    | (clear ok3_0; refine wpList_load_part rfl 27 _ rfl (w.heap.size) 0 rfl (fcells f) _ (M51.at 0 rfl).whole Tryd.underlying27 rfl (by rw [fcells_size]; exact sizeFl) ?_)
    | (clear ok3_1; go_at_call 12; refine (toField _ _).mono ?_; rintro e W59 ⟨rfl, hb60⟩; have M61 := M51.call hb60; have z62 := hb60.size; have F63 := Lib.hid (F53.out.later hb60); have F64 := Lib.hid (F54.out.later hb60); have F65 := Lib.hid (F55.out.later hb60); have F66 := Lib.hid (F48.out.later hb60); have F67 := Lib.hid (F49.out.later hb60); have F68 := Lib.hid (F50.out.later hb60); clear hb60 M51 F53 F54 F55 F48 F49 F50)
    | (clear ok3_2; go_at_call 36; refine (implCheckBeat f hff zg qg g Hhgg.out x zh qh h Hhgh.out b36 _ b47 _ A _ F63.out F66.out (S.out.later M61.below)).mono ?_; rintro e W69 ⟨rfl, hb70⟩; rw [HR0.out, HR1.out]; have M71 := M61.call hb70; have z72 := hb70.size; have F73 := Lib.hid (F63.out.later hb70); have F74 := Lib.hid (F64.out.later hb70); have F75 := Lib.hid (F65.out.later hb70); have F76 := Lib.hid (F66.out.later hb70); have F77 := Lib.hid (F67.out.later hb70); have F78 := Lib.hid (F68.out.later hb70); clear hb70 M61 F63 F64 F65 F66 F67 F68))
  have ok4_0 : True := trivial
  have ok4_1 : True := trivial
  go_upto_region 13 with (first
    | (clear ok4_0; go_at_call 13; refine (Hto_any zg qg g sg cg _ (Hhig.out.later M71.below)).mono ?_; rintro e W79 ⟨b81, rfl, i93, v94, u95, hb80⟩; have M85 := M71.call hb80; have z86 := hb80.size; have F87 := Lib.hid (F73.out.later hb80); have F88 := Lib.hid (F74.out.later hb80); have F89 := Lib.hid (F75.out.later hb80); have F90 := Lib.hid (F76.out.later hb80); have F91 := Lib.hid (F77.out.later hb80); have F92 := Lib.hid (F78.out.later hb80); have F82 := Lib.hid i93; have F83 := Lib.hid v94; have F84 := Lib.hid u95; clear hb80 i93 v94 u95 M71 F73 F74 F75 F76 F77 F78)
    | (clear ok4_1; go_at_call 15; refine (Heq_J _ qg _ _ _ _ _ _ F88.out.j F83.out.j).mono ?_; rintro e W96 ⟨rfl, hb97⟩; have M98 := M85.call hb97; have z99 := hb97.size; have F100 := Lib.hid (F90.out.later hb97); have F101 := Lib.hid (F91.out.later hb97); have F102 := Lib.hid (F92.out.later hb97); clear hb97 M85 F87 F88 F89 F90 F91 F92 F82 F83 F84))
  have ok5_0 : True := trivial
  have ok5_1 : True := trivial
  go_wp2_with (first
    | (clear ok5_0; go_at_call 35; refine (Nto_any zh qh h sh ch _ (Hhih.out.later M98.below)).mono ?_; rintro e W103 ⟨b105, rfl, i114, v115, u116, hb104⟩; have M109 := M98.call hb104; have z110 := hb104.size; have F111 := Lib.hid (F100.out.later hb104); have F112 := Lib.hid (F101.out.later hb104); have F113 := Lib.hid (F102.out.later hb104); have F106 := Lib.hid i114; have F107 := Lib.hid v115; have F108 := Lib.hid u116; clear hb104 i114 v115 u116 M98 F100 F101 F102)
    | (clear ok5_1; go_at_call 29; refine (Neq_J _ qh _ _ _ _ _ _ F112.out.j F107.out.j).mono ?_; rintro e W117 ⟨rfl, hb118⟩; have M119 := M109.call hb118; have z120 := hb118.size; clear hb118 M109 F111 F112 F113 F106 F107 F108))
  go_ret
  exact ⟨rfl, M119.below⟩
theorem trodVars_len {H : Type} {enc : TypeId × Value → H} {P : Program} {w : World} {sp : Nat → Bool} : ∀ {ns : List String} {gs : List (DataW H)} {ps : List MemPlace}, DataW.TrodVars enc P w sp ns gs ps → gs.length = ns.length
  | [], [], _, _ => rfl
  | [], _ :: _, _, h => h.elim
  | _ :: _, [], _, h => h.elim
  | _ :: _, _ :: _, _, ⟨_, _, _, _, _, _, _, _, _, _, h, _⟩ => congrArg (· + 1) (trodVars_len h)
theorem door_met (os : Os) (args : Array Value) : laidMetH Tryd.prog Rows.fnExactCheckBeatRow.laid ((World.doorLaid Tryd.prog 400 os).forCall (fun _ _ => 0) ⟨#[], args, []⟩).memory :=
  laidMetH_of_parts3 (fuel := 8) (laidMet_of_run' 8 (by kernel_rfl) (by kernel_rfl)) (by kernel_rfl) (by kernel_rfl)
set_option maxRecDepth 100000 in
theorem lifted (os : Os) (started : os.Started) (H : Type) (enc : TypeId × Value → H) :
    ReturnsInHanded {} Tryd.checked os 10 .any (fun w args => (Rows.fnExactCheckBeatSpec.pre enc Tryd.prog Tryd.f10 Rows.fnExactCheckBeatRow.domain false w args ∧ laidMetH Tryd.prog Rows.fnExactCheckBeatRow.laid w) ∧ sizedMet enc Tryd.prog Tryd.f10 (OpenSpec.ofChange Rows.fnExactCheckBeatSpec) false w args) (Rows.fnExactCheckBeatSpec.post enc Tryd.prog Tryd.f10 false true false false) := by
  refine returnsInHanded_of_change_and (C := Tryd.checked) (X := fun w _ => laidMetH Tryd.prog Rows.fnExactCheckBeatRow.laid w) (fun _ _ _ hh h => h.of_heap hh) own started (by kernel_rfl) Tryd.func10
    (ChangeSpec.witness_shaped (enc := enc) (C := Tryd.checked) (os := os) (X := fun w _ => laidMetH Tryd.prog Rows.fnExactCheckBeatRow.laid w) false (World.doorLaid Tryd.prog 400 os) #[.agg (fcells Fd.zero), .slice none 0 0, .int .i64 0, .slice none 0 0] 8 rfl (World.shaped_of_RefB (by kernel_rfl) (by kernel_rfl)) (by kernel_rfl) (by kernel_rfl) (by kernel_rfl) (door_met os _)) ?_
  intro W base args ds gs before hval0 hW _ _ hL _
  have hval : ∀ (j : Nat) t v, Tryd.f10.params[j]? = some t → args[j]? = some v → Value.okWide Tryd.prog W .any base t v := hval0
  have hW' := hW
  obtain ⟨p, q, hA0, hV0, rfl, hfz, hnd⟩ := hW
  have hA : DataW.TrodAll enc Tryd.prog W 0 (fun _ => true) true Tryd.f10.params.toList args.toList ds p := hA0
  have hV : DataW.TrodVars enc Tryd.prog W (fun _ => true) Rows.fnExactCheckBeatSpec.vars gs q := hV0
  rw [Tryd.params10] at hA hval
  obtain ⟨v0, vs0, d0, ds0, p0, q0, hargs, rfl, rfl, h0, r0⟩ := trodAll_cons hA
  obtain ⟨v1, vs1, d1, ds1, p1, q1, rfl, rfl, rfl, h1, r1⟩ := trodAll_cons r0
  obtain ⟨v2, vs2, d2, ds2, p2, q2, rfl, rfl, rfl, h2, r2⟩ := trodAll_cons r1
  obtain ⟨v3, vs3, d3, ds3, p3, q3, rfl, rfl, rfl, h3, r3⟩ := trodAll_cons r2
  obtain ⟨rfl, rfl, rfl⟩ := trodAll_nil r3
  obtain rfl : args = #[v0, v1, v2, v3] := by cases args; simp_all
  rw [MakeChecks.laidMetH_plain _ _ _ (by kernel_rfl)] at hL
  obtain ⟨A, SV⟩ := sentVars (rest := []) hL
  have hlen := trodVars_len hV
  obtain ⟨gv1, gv2, gv3, gv4, gv5, gv6, gv7, gv8, rfl⟩ : ∃ gv1 gv2 gv3 gv4 gv5 gv6 gv7 gv8, gs = [gv1, gv2, gv3, gv4, gv5, gv6, gv7, gv8] := by
    match gs, hlen with
    | [gv1, gv2, gv3, gv4, gv5, gv6, gv7, gv8], _ => exact ⟨gv1, gv2, gv3, gv4, gv5, gv6, gv7, gv8, rfl⟩
  have k0 := h0
  have lt0 : ∀ x ∈ p0, x.block < W.heap.size := by obtain ⟨m, hm⟩ := k0; exact DataW.trod_lt m _ _ _ hm
  have k1 := h1
  have lt1 : ∀ x ∈ p1, x.block < W.heap.size := by obtain ⟨m, hm⟩ := k1; exact DataW.trod_lt m _ _ _ hm
  have k2 := h2
  have lt2 : ∀ x ∈ p2, x.block < W.heap.size := by obtain ⟨m, hm⟩ := k2; exact DataW.trod_lt m _ _ _ hm
  have k3 := h3
  have lt3 : ∀ x ∈ p3, x.block < W.heap.size := by obtain ⟨m, hm⟩ := k3; exact DataW.trod_lt m _ _ _ hm
  obtain ⟨f0, rfl, hf0⟩ := open_field (fs := Tryd.prog.fieldsOf 27) (by kernel_rfl) (by kernel_rfl) Tryd.underlying22 Tryd.underlying23 Tryd.underlying5 Tryd.underlying25 Tryd.underlying24 (by kernel_rfl) (by kernel_rfl) (by kernel_rfl) (by kernel_rfl) (by kernel_rfl) (by kernel_rfl) (hval 0 27 v0 rfl rfl) h0
  obtain ⟨s1, z1, c1, g1, rfl, hz1, hi1, hg1⟩ := open_halves Tryd.underlying28 Tryd.underlying24 (by kernel_rfl) (hval 1 28 v1 rfl rfl) h1
  obtain ⟨n2, rfl, rfl, rfl, wn2⟩ := open_int Tryd.underlying2 (hval 2 2 v2 rfl rfl) h2
  obtain ⟨s3, z3, c3, g3, rfl, hz3, hi3, hg3⟩ := open_nums Tryd.underlying49 Tryd.underlying2 (by kernel_rfl) (hval 3 49 v3 rfl rfl) h3
  clear hA0 hval0 hV0
  refine (walk W f0 hf0 s1 z1 c1 g1 (by simpa [maxLen] using hz1) hi1 hg1 n2 wn2 s3 z3 c3 g3 (by simpa [maxLen] using hz3) hi3 hg3 A SV.sents).mono fun e W' ⟨he, bel⟩ => ?_
  subst he
  exact ⟨_, rfl, _, _, _, [], _, _, hW', trodAll_mk1 (shut_bool Tryd.underlying4 _), (trodAll_cons_mk (Below.trod laidOut (by kernel_rfl) (of_decide_eq_true (by kernel_rfl)) k0 bel lt0) (trodAll_cons_mk (Below.trod laidOut (by kernel_rfl) (of_decide_eq_true (by kernel_rfl)) k1 bel lt1) (trodAll_cons_mk (Below.trod laidOut (by kernel_rfl) (of_decide_eq_true (by kernel_rfl)) k2 bel lt2) (trodAll_cons_mk (Below.trod laidOut (by kernel_rfl) (of_decide_eq_true (by kernel_rfl)) k3 bel lt3) trodAll_mk0)))), Below.trodVars laidOut bel (by kernel_rfl) hV, bel.frame _, fun h => by cases h⟩

theorem over : Rows.fnExactCheckBeatRow.holds Tryd.pinned (OpenSpec.ofChange Rows.fnExactCheckBeatSpec) :=
  OpenClaim.holds_of_wide 10 Tryd.f10 rfl rfl rfl rfl rfl rfl rfl ⟨rfl, rfl, rfl, rfl, rfl⟩ rfl rfl rfl rfl rfl (by kernel_rfl) Tryd.func10 (by kernel_rfl)
    (of_decide_eq_true (by kernel_rfl)) (by unfold Func.isWrapper; first | (rw [if_pos (by decide +kernel)]; kernel_rfl) | (rw [if_neg (by decide +kernel)]; exact ⟨rfl, rfl⟩))
    (fun os started H enc _ => lifted os started H enc)
theorem proved : Rows.FnExactCheckBeatCardSaid :=
  Claim7.holds_tied_plain_at .later [] [.sentinel, .sentinel, .sentinel, .sentinel, .sentinel, .sentinel, .sentinel, .sentinel] true (true, "0914e1a8d4c6ef4525306dc8f4027847270c55f222ee511d88e75d1d73e992d1") true
    over (fun _ h => by cases h) (by kernel_rfl) (fun _ h => by cases h) fnExactCheckBeat_row_tie rfl ⟨rfl, rfl⟩ (by kernel_rfl) rfl
    (fun f fn hf hfn => by
      obtain rfl : f = 10 := Option.some.inj ((show Tryd.prog.funcNamed "loop.example/g01338/laws.FnExactCheckBeat" = some 10 by kernel_rfl).symm.trans hf) |>.symm
      obtain rfl : fn = Tryd.f10 := (Option.some.inj (Tryd.func10.symm.trans hfn)).symm
      exact ⟨by kernel_rfl, fun j t ht => by
        rw [Tryd.params10] at ht
        have hm : t ∈ [27, 28, 2, 49] := by simpa using Array.mem_of_getElem? ht
        have hall : ([27, 28, 2, 49].all fun u => !Tryd.prog.wantsStandIn u) = true := by kernel_rfl
        exact (show Tryd.prog.wantsStandIn t = false by simpa using List.all_eq_true.1 hall t hm)⟩)
    (by kernel_rfl)
#print axioms proved
end Go.Proofs.YtdjbaajcgipebaaDoor.lawCheckBeat
