/-
  CheckApart: for all arguments the program answers as the model does: no condition beyond the listed sentinels, which the card ties to the program's text.
-/
import Derived.Test.YtidddepdjokjcaaDoorChAI
import Derived.Test.YtidddepdjokjcaaDoorLstN
import Derived.Test.YtidddepdjokjcaaDoorLawh
import Derived.Test.YtidddepdjokjcaaDoorCoreB
import Derived.Test.YtidddepdjokjcaaDoorCard
import Derived.Test.YtidddepdjokjcaaDoorTie
import Derived.Test.YtidddepdjokjcaaDoorCards
import Derived.SevenTiedAt
import Derived.OpenVars
import Derived.ChangeOld
import Derived.Below
namespace Go.Proofs.YtidddepdjokjcaaDoor.lawCheckApart
open Go Go.ChangeShapes Go.WideShapes Go.ChangeAt Go.RowKit

set_option maxRecDepth 100000 in
set_option maxHeartbeats 16000000 in
theorem walk (w : World) (f : Fd) (hff : f.Wf) (x : Int) (wx : (Lit.int .i64 x).wf = true) (y : Int) (wy : (Lit.int .i64 y).wf = true) (sh : Option Addr) (zh ch : Nat) (h : Nat → Int) (hzh : zh ≤ 2 ^ 63 - 1) (hih : InJ w sh zh h) (hgh : Wf64 zh h) (A : Nat → Addr) (S0 : Sents w A) :
    Calls Tryd.prog 5 #[.agg (fcells f), .int .i64 x, .int .i64 y, .slice sh zh ch] w fun e w' => e = .returned (.bool true) ∧ Below w.heap.size w w' := by
  have S : Hid (Sents w A) := Lib.hid S0
  clear S0
  obtain ⟨x1, x2⟩ := bounds_i64 wx
  obtain ⟨y1, y2⟩ := bounds_i64 wy
  have Hhih := Lib.hid hih
  have Hhgh := Lib.hid hgh
  clear hih hgh
  by_cases hbh : 1048576 < zh
  · have th : decide (1048576 < (zh : Int)) = true := decide_eq_true (by omega)
    go_enter Tryd.func5, Tryd.ntmps5
    go_upto_region 1 with (fail)
    obtain ⟨W0, hW, M0⟩ := open1 w (fcells f) 27
    rw [hW]; clear hW
    go_wp2_with (fail)
    go_ret
    exact ⟨rfl, M0.below⟩
  have qh : zh ≤ 2 ^ 40 := by omega
  have th : decide (1048576 < (zh : Int)) = false := decide_eq_false (by omega)
  obtain ⟨rv0, hrv0⟩ : ∃ res, (chaVal f x y zh h) = res := ⟨_, rfl⟩
  have HR0 := Lib.hid hrv0
  clear hrv0
  obtain ⟨rv1, hrv1⟩ : ∃ res, (apCode f x y) = res := ⟨_, rfl⟩
  have HR1 := Lib.hid hrv1
  clear hrv1
  go_enter Tryd.func5, Tryd.ntmps5
  go_upto_region 1 with (fail)
  obtain ⟨W0, hW, M0⟩ := open1 w (fcells f) 27
  rw [hW]; clear hW
  have HM0 := Lib.hid M0.before
  have z0 : w.heap.size ≤ W0.heap.size := M0.below.size
  have ok0_0 : True := trivial
  have ok0_1 : True := trivial
  have ok0_2 : True := trivial
  have ok0_3 : True := trivial
  go_upto_region 4 with (first
    | (clear ok0_0; refine wpList_load_part rfl 27 _ rfl (w.heap.size) 0 rfl (fcells f) _ (M0.at 0 rfl).whole Tryd.underlying27 rfl (by rw [fcells_size]; exact sizeFl) ?_)
    | (clear ok0_1; go_at_call 7; refine (toField _ _).mono ?_; rintro e W1 ⟨rfl, hb2⟩; have M3 := M0.call hb2; have z4 := hb2.size; clear hb2 M0)
    | (clear ok0_2; go_at_call 9; refine (Nto_any zh qh h sh ch _ (Hhih.out.later M3.below)).mono ?_; rintro e W5 ⟨b7, rfl, i13, v14, u15, hb6⟩; have M11 := M3.call hb6; have z12 := hb6.size; have F8 := Lib.hid i13; have F9 := Lib.hid v14; have F10 := Lib.hid u15; clear hb6 i13 v14 u15 M3)
    | (clear ok0_3; go_at_call 16; refine (specCheckApart f hff x y zh qh h b7 zh (Nat.le_refl _) _ F8.out).mono ?_; rintro e W16 ⟨rfl, hb17⟩; rw [HR0.out, HR1.out]; have M18 := M11.call hb17; have z19 := hb17.size; clear hb17 M11 F8 F9 F10))
  go_upto_region 5 with (go_at_call 9; refine (Nto_any zh qh h sh ch _ (Hhih.out.later M18.below)).mono ?_; rintro e W20 ⟨b22, rfl, i28, v29, u30, hb21⟩; have M26 := M18.call hb21; have z27 := hb21.size; have F23 := Lib.hid i28; have F24 := Lib.hid v29; have F25 := Lib.hid u30; clear hb21 i28 v29 u30 M18)
  have ok2_0 : True := trivial
  have ok2_1 : True := trivial
  have ok2_2 : True := trivial
  go_upto_region 8 with (first
    | (clear ok2_0; refine wpList_load_part rfl 27 _ rfl (w.heap.size) 0 rfl (fcells f) _ (M26.at 0 rfl).whole Tryd.underlying27 rfl (by rw [fcells_size]; exact sizeFl) ?_)
    | (clear ok2_1; go_at_call 7; refine (toField _ _).mono ?_; rintro e W31 ⟨rfl, hb32⟩; have M33 := M26.call hb32; have z34 := hb32.size; have F35 := Lib.hid (F23.out.later hb32); have F36 := Lib.hid (F24.out.later hb32); have F37 := Lib.hid (F25.out.later hb32); clear hb32 M26 F23 F24 F25)
    | (clear ok2_2; go_at_call 17; refine (implCheckApart f hff x y zh (by omega) h Hhgh.out b22 zh A _ F35.out (S.out.later M33.below)).mono ?_; rintro e W38 ⟨rfl, hb39⟩; rw [HR0.out, HR1.out]; have M40 := M33.call hb39; have z41 := hb39.size; have F42 := Lib.hid (F35.out.later hb39); have F43 := Lib.hid (F36.out.later hb39); have F44 := Lib.hid (F37.out.later hb39); clear hb39 M33 F35 F36 F37))
  have ok3_0 : True := trivial
  have ok3_1 : True := trivial
  go_wp2_with (first
    | (clear ok3_0; go_at_call 9; refine (Nto_any zh qh h sh ch _ (Hhih.out.later M40.below)).mono ?_; rintro e W45 ⟨b47, rfl, i56, v57, u58, hb46⟩; have M51 := M40.call hb46; have z52 := hb46.size; have F53 := Lib.hid (F42.out.later hb46); have F54 := Lib.hid (F43.out.later hb46); have F55 := Lib.hid (F44.out.later hb46); have F48 := Lib.hid i56; have F49 := Lib.hid v57; have F50 := Lib.hid u58; clear hb46 i56 v57 u58 M40 F42 F43 F44)
    | (clear ok3_1; go_at_call 11; refine (Neq_J _ qh _ _ _ _ _ _ F54.out.j F49.out.j).mono ?_; rintro e W59 ⟨rfl, hb60⟩; have M61 := M51.call hb60; have z62 := hb60.size; clear hb60 M51 F53 F54 F55 F48 F49 F50))
  go_ret
  exact ⟨rfl, M61.below⟩
theorem trodVars_len {H : Type} {enc : TypeId × Value → H} {P : Program} {w : World} {sp : Nat → Bool} : ∀ {ns : List String} {gs : List (DataW H)} {ps : List MemPlace}, DataW.TrodVars enc P w sp ns gs ps → gs.length = ns.length
  | [], [], _, _ => rfl
  | [], _ :: _, _, h => h.elim
  | _ :: _, [], _, h => h.elim
  | _ :: _, _ :: _, _, ⟨_, _, _, _, _, _, _, _, _, _, h, _⟩ => congrArg (· + 1) (trodVars_len h)
theorem door_met (os : Os) (args : Array Value) : laidMetH Tryd.prog Rows.fnExactCheckApartRow.laid ((World.doorLaid Tryd.prog 400 os).forCall (fun _ _ => 0) ⟨#[], args, []⟩).memory :=
  laidMetH_of_parts3 (fuel := 8) (laidMet_of_run' 8 (by kernel_rfl) (by kernel_rfl)) (by kernel_rfl) (by kernel_rfl)
set_option maxRecDepth 100000 in
theorem lifted (os : Os) (started : os.Started) (H : Type) (enc : TypeId × Value → H) :
    ReturnsInHanded {} Tryd.checked os 5 .any (fun w args => (Rows.fnExactCheckApartSpec.pre enc Tryd.prog Tryd.f5 Rows.fnExactCheckApartRow.domain false w args ∧ laidMetH Tryd.prog Rows.fnExactCheckApartRow.laid w) ∧ sizedMet enc Tryd.prog Tryd.f5 (OpenSpec.ofChange Rows.fnExactCheckApartSpec) false w args) (Rows.fnExactCheckApartSpec.post enc Tryd.prog Tryd.f5 false true false false) := by
  refine returnsInHanded_of_change_and (C := Tryd.checked) (X := fun w _ => laidMetH Tryd.prog Rows.fnExactCheckApartRow.laid w) (fun _ _ _ hh h => h.of_heap hh) own started (by kernel_rfl) Tryd.func5
    (ChangeSpec.witness_shaped (enc := enc) (C := Tryd.checked) (os := os) (X := fun w _ => laidMetH Tryd.prog Rows.fnExactCheckApartRow.laid w) false (World.doorLaid Tryd.prog 400 os) #[.agg (fcells Fd.zero), .int .i64 0, .int .i64 0, .slice none 0 0] 8 rfl (World.shaped_of_RefB (by kernel_rfl) (by kernel_rfl)) (by kernel_rfl) (by kernel_rfl) (by kernel_rfl) (door_met os _)) ?_
  intro W base args ds gs before hval0 hW _ _ hL _
  have hval : ∀ (j : Nat) t v, Tryd.f5.params[j]? = some t → args[j]? = some v → Value.okWide Tryd.prog W .any base t v := hval0
  have hW' := hW
  obtain ⟨p, q, hA0, hV0, rfl, hfz, hnd⟩ := hW
  have hA : DataW.TrodAll enc Tryd.prog W 0 (fun _ => true) true Tryd.f5.params.toList args.toList ds p := hA0
  have hV : DataW.TrodVars enc Tryd.prog W (fun _ => true) Rows.fnExactCheckApartSpec.vars gs q := hV0
  rw [Tryd.params5] at hA hval
  obtain ⟨v0, vs0, d0, ds0, p0, q0, hargs, rfl, rfl, h0, r0⟩ := trodAll_cons hA
  obtain ⟨v1, vs1, d1, ds1, p1, q1, rfl, rfl, rfl, h1, r1⟩ := trodAll_cons r0
  obtain ⟨v2, vs2, d2, ds2, p2, q2, rfl, rfl, rfl, h2, r2⟩ := trodAll_cons r1
  obtain ⟨v3, vs3, d3, ds3, p3, q3, rfl, rfl, rfl, h3, r3⟩ := trodAll_cons r2
  obtain ⟨rfl, rfl, rfl⟩ := trodAll_nil r3
  obtain rfl : args = #[v0, v1, v2, v3] := by cases args; simp_all
  rw [MakeChecks.laidMetH_plain _ _ _ (by kernel_rfl)] at hL
  obtain ⟨A, SV⟩ := sentVars (rest := []) hL
  have hlen := trodVars_len hV
  obtain ⟨gv1, gv2, gv3, gv4, gv5, gv6, gv7, gv8, rfl⟩ : ∃ gv1 gv2 gv3 gv4 gv5 gv6 gv7 gv8, gs = [gv1, gv2, gv3, gv4, gv5, gv6, gv7, gv8] := by
    match gs, hlen with
    | [gv1, gv2, gv3, gv4, gv5, gv6, gv7, gv8], _ => exact ⟨gv1, gv2, gv3, gv4, gv5, gv6, gv7, gv8, rfl⟩
  have k0 := h0
  have lt0 : ∀ x ∈ p0, x.block < W.heap.size := by obtain ⟨m, hm⟩ := k0; exact DataW.trod_lt m _ _ _ hm
  have k1 := h1
  have lt1 : ∀ x ∈ p1, x.block < W.heap.size := by obtain ⟨m, hm⟩ := k1; exact DataW.trod_lt m _ _ _ hm
  have k2 := h2
  have lt2 : ∀ x ∈ p2, x.block < W.heap.size := by obtain ⟨m, hm⟩ := k2; exact DataW.trod_lt m _ _ _ hm
  have k3 := h3
  have lt3 : ∀ x ∈ p3, x.block < W.heap.size := by obtain ⟨m, hm⟩ := k3; exact DataW.trod_lt m _ _ _ hm
  obtain ⟨f0, rfl, hf0⟩ := open_field (fs := Tryd.prog.fieldsOf 27) (by kernel_rfl) (by kernel_rfl) Tryd.underlying22 Tryd.underlying23 Tryd.underlying5 Tryd.underlying25 Tryd.underlying24 (by kernel_rfl) (by kernel_rfl) (by kernel_rfl) (by kernel_rfl) (by kernel_rfl) (by kernel_rfl) (hval 0 27 v0 rfl rfl) h0
  obtain ⟨n1, rfl, rfl, rfl, wn1⟩ := open_int Tryd.underlying2 (hval 1 2 v1 rfl rfl) h1
  obtain ⟨n2, rfl, rfl, rfl, wn2⟩ := open_int Tryd.underlying2 (hval 2 2 v2 rfl rfl) h2
  obtain ⟨s3, z3, c3, g3, rfl, hz3, hi3, hg3⟩ := open_nums Tryd.underlying30 Tryd.underlying2 (by kernel_rfl) (hval 3 30 v3 rfl rfl) h3
  clear hA0 hval0 hV0
  refine (walk W f0 hf0 n1 wn1 n2 wn2 s3 z3 c3 g3 (by simpa [maxLen] using hz3) hi3 hg3 A SV.sents).mono fun e W' ⟨he, bel⟩ => ?_
  subst he
  exact ⟨_, rfl, _, _, _, [], _, _, hW', trodAll_mk1 (shut_bool Tryd.underlying4 _), (trodAll_cons_mk (Below.trod laidOut (by kernel_rfl) (of_decide_eq_true (by kernel_rfl)) k0 bel lt0) (trodAll_cons_mk (Below.trod laidOut (by kernel_rfl) (of_decide_eq_true (by kernel_rfl)) k1 bel lt1) (trodAll_cons_mk (Below.trod laidOut (by kernel_rfl) (of_decide_eq_true (by kernel_rfl)) k2 bel lt2) (trodAll_cons_mk (Below.trod laidOut (by kernel_rfl) (of_decide_eq_true (by kernel_rfl)) k3 bel lt3) trodAll_mk0)))), Below.trodVars laidOut bel (by kernel_rfl) hV, bel.frame _, fun h => by cases h⟩

theorem over : Rows.fnExactCheckApartRow.holds Tryd.pinned (OpenSpec.ofChange Rows.fnExactCheckApartSpec) :=
  OpenClaim.holds_of_wide 5 Tryd.f5 rfl rfl rfl rfl rfl rfl rfl ⟨rfl, rfl, rfl, rfl, rfl⟩ rfl rfl rfl rfl rfl (by kernel_rfl) Tryd.func5 (by kernel_rfl)
    (of_decide_eq_true (by kernel_rfl)) (by unfold Func.isWrapper; first | (rw [if_pos (by decide +kernel)]; kernel_rfl) | (rw [if_neg (by decide +kernel)]; exact ⟨rfl, rfl⟩))
    (fun os started H enc _ => lifted os started H enc)
theorem proved : Rows.FnExactCheckApartCardSaid :=
  Claim7.holds_tied_plain_at .later [] [.sentinel, .sentinel, .sentinel, .sentinel, .sentinel, .sentinel, .sentinel, .sentinel] true (true, "838aedac2a77173806cac9b66434b565f19b8b507333087aeaac2a25d991b319") true
    over (fun _ h => by cases h) (by kernel_rfl) (fun _ h => by cases h) fnExactCheckApart_row_tie rfl ⟨rfl, rfl⟩ (by kernel_rfl) rfl
    (fun f fn hf hfn => by
      obtain rfl : f = 5 := Option.some.inj ((show Tryd.prog.funcNamed "loop.example/g01338/laws.FnExactCheckApart" = some 5 by kernel_rfl).symm.trans hf) |>.symm
      obtain rfl : fn = Tryd.f5 := (Option.some.inj (Tryd.func5.symm.trans hfn)).symm
      exact ⟨by kernel_rfl, fun j t ht => by
        rw [Tryd.params5] at ht
        have hm : t ∈ [27, 2, 2, 30] := by simpa using Array.mem_of_getElem? ht
        have hall : ([27, 2, 2, 30].all fun u => !Tryd.prog.wantsStandIn u) = true := by kernel_rfl
        exact (show Tryd.prog.wantsStandIn t = false by simpa using List.all_eq_true.1 hall t hm)⟩)
    (by kernel_rfl)
#print axioms proved
end Go.Proofs.YtidddepdjokjcaaDoor.lawCheckApart
