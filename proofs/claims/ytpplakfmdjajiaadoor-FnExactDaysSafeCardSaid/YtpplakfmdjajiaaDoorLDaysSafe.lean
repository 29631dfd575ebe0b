/-
  DaysSafe: for all arguments the program answers as the model does: no condition beyond the listed sentinels, which the card ties to the program's text.
-/
import Derived.Test.YtpplakfmdjajiaaDoorDays
import Derived.Test.YtpplakfmdjajiaaDoorLstC
import Derived.Test.YtpplakfmdjajiaaDoorLawh
import Derived.Test.YtpplakfmdjajiaaDoorOpen
import Derived.Test.YtpplakfmdjajiaaDoorCard
import Derived.Test.YtpplakfmdjajiaaDoorTie
import Derived.Test.YtpplakfmdjajiaaDoorCards
import Derived.SevenTiedAt
import Derived.OpenVars
import Derived.ChangeOld
import Derived.Below
namespace Go.Proofs.YtpplakfmdjajiaaDoor.lawDaysSafe
open Go Go.ChangeShapes Go.WideShapes Go.ChangeAt Go.RowKit

set_option maxRecDepth 100000 in
set_option maxHeartbeats 16000000 in
theorem walk (w : World) (f : Fd) (hff : f.Wf) (sl : Option Addr) (zl cl : Nat) (l : Nat → Nat → Int) (hzl : zl ≤ 2 ^ 63 - 1) (hil : InA ksScarecrow w sl zl l) (hgl : WfS ksScarecrow zl l) (x : Int) (wx : (Lit.int .i64 x).wf = true) (y : Int) (wy : (Lit.int .i64 y).wf = true) (A : Nat → Addr) (S0 : Sents w A) :
    Calls Tryd.prog 7 #[.agg (fcells f), .slice sl zl cl, .int .i64 x, .int .i64 y] w fun e w' => e = .returned (.bool true) ∧ Below w.heap.size w w' := by
  have S : Hid (Sents w A) := Lib.hid S0
  clear S0
  obtain ⟨x1, x2⟩ := bounds_i64 wx
  obtain ⟨y1, y2⟩ := bounds_i64 wy
  have Hhil := Lib.hid hil
  have Hhgl := Lib.hid hgl
  clear hil hgl
  by_cases hbl : 1048576 < zl
  · have tl : decide (1048576 < (zl : Int)) = true := decide_eq_true (by omega)
    go_enter Tryd.func7, Tryd.ntmps7
    go_upto_region 1 with (fail)
    obtain ⟨W0, hW, M0⟩ := open1 w (fcells f) 27
    rw [hW]; clear hW
    go_wp2_with (first | (go_at_call 12; refine (szScarecrowS_any zl cl (by omega) sl _ (by omega) (by omega) (by omega) _).mono ?_; rintro e w9 ⟨rfl, rfl⟩; rw [if_pos (by omega)]))
    go_ret
    exact ⟨rfl, M0.below⟩
  have ql : zl ≤ 2 ^ 40 := by omega
  have tl : decide (1048576 < (zl : Int)) = false := decide_eq_false (by omega)
  obtain ⟨rv0, hrv0⟩ : ∃ res, (daysVal f zl l x y) = res := ⟨_, rfl⟩
  have HR0 := Lib.hid hrv0
  clear hrv0
  obtain ⟨rv1, hrv1⟩ : ∃ res, (askCode f zl l (isCell f x && inB y 1 1000)) = res := ⟨_, rfl⟩
  have HR1 := Lib.hid hrv1
  clear hrv1
  go_enter Tryd.func7, Tryd.ntmps7
  go_upto_region 1 with (fail)
  obtain ⟨W0, hW, M0⟩ := open1 w (fcells f) 27
  rw [hW]; clear hW
  have HM0 := Lib.hid M0.before
  have z0 : w.heap.size ≤ W0.heap.size := M0.below.size
  go_upto_region 5 with (go_at_call 12; refine (szScarecrowS_any zl cl (by omega) sl _ (by omega) (by omega) (by omega) _).mono ?_; rintro e w9 ⟨rfl, rfl⟩; rw [if_neg (by omega)])
  have ok1_0 : True := trivial
  have ok1_1 : True := trivial
  have ok1_2 : True := trivial
  have ok1_3 : True := trivial
  go_upto_region 6 with (first
    | (clear ok1_0; refine wpList_load_part rfl 27 _ rfl (w.heap.size) 0 rfl (fcells f) _ (M0.at 0 rfl).whole Tryd.underlying27 rfl (by rw [fcells_size]; exact sizeFl) ?_)
    | (clear ok1_1; go_at_call 14; refine (toField _ _).mono ?_; rintro e W3 ⟨rfl, hb4⟩; have M5 := M0.call hb4; have z6 := hb4.size; clear hb4 M0)
    | (clear ok1_2; go_at_call 15; refine (Cto_any zl ql l sl cl _ (Hhil.out.later M5.below)).mono ?_; rintro e W7 ⟨b9, rfl, i15, v16, u17, hb8⟩; have M13 := M5.call hb8; have z14 := hb8.size; have F10 := Lib.hid i15; have F11 := Lib.hid v16; have F12 := Lib.hid u17; clear hb8 i15 v16 u17 M5)
    | (clear ok1_3; go_at_call 27; refine (specDaysSafe f hff zl ql l Hhgl.out x ⟨x1, x2⟩ y ⟨y1, y2⟩ b9 zl _ F10.out).mono ?_; rintro e W18 ⟨rfl, hb19⟩; rw [HR0.out, HR1.out]; have M20 := M13.call hb19; have z21 := hb19.size; clear hb19 M13 F10 F11 F12))
  go_upto_region 7 with (go_at_call 15; refine (Cto_any zl ql l sl cl _ (Hhil.out.later M20.below)).mono ?_; rintro e W22 ⟨b24, rfl, i30, v31, u32, hb23⟩; have M28 := M20.call hb23; have z29 := hb23.size; have F25 := Lib.hid i30; have F26 := Lib.hid v31; have F27 := Lib.hid u32; clear hb23 i30 v31 u32 M20)
  have ok3_0 : True := trivial
  have ok3_1 : True := trivial
  have ok3_2 : True := trivial
  go_upto_region 10 with (first
    | (clear ok3_0; refine wpList_load_part rfl 27 _ rfl (w.heap.size) 0 rfl (fcells f) _ (M28.at 0 rfl).whole Tryd.underlying27 rfl (by rw [fcells_size]; exact sizeFl) ?_)
    | (clear ok3_1; go_at_call 14; refine (toField _ _).mono ?_; rintro e W33 ⟨rfl, hb34⟩; have M35 := M28.call hb34; have z36 := hb34.size; have F37 := Lib.hid (F25.out.later hb34); have F38 := Lib.hid (F26.out.later hb34); have F39 := Lib.hid (F27.out.later hb34); clear hb34 M28 F25 F26 F27)
    | (clear ok3_2; go_at_call 28; refine (implDaysSafe f hff zl ql l Hhgl.out x ⟨x1, x2⟩ y ⟨y1, y2⟩ b24 zl (Nat.le_refl _) A _ F37.out (S.out.later M35.below)).mono ?_; rintro e W40 ⟨rfl, hb41⟩; rw [HR0.out, HR1.out]; have M42 := M35.call hb41; have z43 := hb41.size; have F44 := Lib.hid (F37.out.later hb41); have F45 := Lib.hid (F38.out.later hb41); have F46 := Lib.hid (F39.out.later hb41); clear hb41 M35 F37 F38 F39))
  have ok4_0 : True := trivial
  have ok4_1 : True := trivial
  go_wp2_with (first
    | (clear ok4_0; go_at_call 15; refine (Cto_any zl ql l sl cl _ (Hhil.out.later M42.below)).mono ?_; rintro e W47 ⟨b49, rfl, i58, v59, u60, hb48⟩; have M53 := M42.call hb48; have z54 := hb48.size; have F55 := Lib.hid (F44.out.later hb48); have F56 := Lib.hid (F45.out.later hb48); have F57 := Lib.hid (F46.out.later hb48); have F50 := Lib.hid i58; have F51 := Lib.hid v59; have F52 := Lib.hid u60; clear hb48 i58 v59 u60 M42 F44 F45 F46)
    | (clear ok4_1; go_at_call 18; refine (Ceq_J _ ql _ _ _ _ _ _ F56.out.j F51.out.j).mono ?_; rintro e W61 ⟨rfl, hb62⟩; have M63 := M53.call hb62; have z64 := hb62.size; clear hb62 M53 F55 F56 F57 F50 F51 F52))
  go_ret
  exact ⟨rfl, M63.below⟩
theorem trodVars_len {H : Type} {enc : TypeId × Value → H} {P : Program} {w : World} {sp : Nat → Bool} : ∀ {ns : List String} {gs : List (DataW H)} {ps : List MemPlace}, DataW.TrodVars enc P w sp ns gs ps → gs.length = ns.length
  | [], [], _, _ => rfl
  | [], _ :: _, _, h => h.elim
  | _ :: _, [], _, h => h.elim
  | _ :: _, _ :: _, _, ⟨_, _, _, _, _, _, _, _, _, _, h, _⟩ => congrArg (· + 1) (trodVars_len h)
theorem door_met (os : Os) (args : Array Value) : laidMetH Tryd.prog Rows.fnExactDaysSafeRow.laid ((World.doorLaid Tryd.prog 400 os).forCall (fun _ _ => 0) ⟨#[], args, []⟩).memory :=
  laidMetH_of_parts3 (fuel := 8) (laidMet_of_run' 8 (by kernel_rfl) (by kernel_rfl)) (by kernel_rfl) (by kernel_rfl)
set_option maxRecDepth 100000 in
theorem lifted (os : Os) (started : os.Started) (H : Type) (enc : TypeId × Value → H) :
    ReturnsInHanded {} Tryd.checked os 7 .any (fun w args => (Rows.fnExactDaysSafeSpec.pre enc Tryd.prog Tryd.f7 Rows.fnExactDaysSafeRow.domain false w args ∧ laidMetH Tryd.prog Rows.fnExactDaysSafeRow.laid w) ∧ sizedMet enc Tryd.prog Tryd.f7 (OpenSpec.ofChange Rows.fnExactDaysSafeSpec) false w args) (Rows.fnExactDaysSafeSpec.post enc Tryd.prog Tryd.f7 false true false false) := by
  refine returnsInHanded_of_change_and (C := Tryd.checked) (X := fun w _ => laidMetH Tryd.prog Rows.fnExactDaysSafeRow.laid w) (fun _ _ _ hh h => h.of_heap hh) own started (by kernel_rfl) Tryd.func7
    (ChangeSpec.witness_shaped (enc := enc) (C := Tryd.checked) (os := os) (X := fun w _ => laidMetH Tryd.prog Rows.fnExactDaysSafeRow.laid w) false (World.doorLaid Tryd.prog 400 os) #[.agg (fcells Fd.zero), .slice none 0 0, .int .i64 0, .int .i64 0] 8 rfl (World.shaped_of_RefB (by kernel_rfl) (by kernel_rfl)) (by kernel_rfl) (by kernel_rfl) (by kernel_rfl) (door_met os _)) ?_
  intro W base args ds gs before hval0 hW _ _ hL _
  have hval : ∀ (j : Nat) t v, Tryd.f7.params[j]? = some t → args[j]? = some v → Value.okWide Tryd.prog W .any base t v := hval0
  have hW' := hW
  obtain ⟨p, q, hA0, hV0, rfl, hfz, hnd⟩ := hW
  have hA : DataW.TrodAll enc Tryd.prog W 0 (fun _ => true) true Tryd.f7.params.toList args.toList ds p := hA0
  have hV : DataW.TrodVars enc Tryd.prog W (fun _ => true) Rows.fnExactDaysSafeSpec.vars gs q := hV0
  rw [Tryd.params7] at hA hval
  obtain ⟨v0, vs0, d0, ds0, p0, q0, hargs, rfl, rfl, h0, r0⟩ := trodAll_cons hA
  obtain ⟨v1, vs1, d1, ds1, p1, q1, rfl, rfl, rfl, h1, r1⟩ := trodAll_cons r0
  obtain ⟨v2, vs2, d2, ds2, p2, q2, rfl, rfl, rfl, h2, r2⟩ := trodAll_cons r1
  obtain ⟨v3, vs3, d3, ds3, p3, q3, rfl, rfl, rfl, h3, r3⟩ := trodAll_cons r2
  obtain ⟨rfl, rfl, rfl⟩ := trodAll_nil r3
  obtain rfl : args = #[v0, v1, v2, v3] := by cases args; simp_all
  rw [MakeChecks.laidMetH_plain _ _ _ (by kernel_rfl)] at hL
  obtain ⟨A, SV⟩ := sentVars (rest := []) hL
  have hlen := trodVars_len hV
  obtain ⟨gv1, gv2, gv3, gv4, gv5, gv6, gv7, gv8, rfl⟩ : ∃ gv1 gv2 gv3 gv4 gv5 gv6 gv7 gv8, gs = [gv1, gv2, gv3, gv4, gv5, gv6, gv7, gv8] := by
    match gs, hlen with
    | [gv1, gv2, gv3, gv4, gv5, gv6, gv7, gv8], _ => exact ⟨gv1, gv2, gv3, gv4, gv5, gv6, gv7, gv8, rfl⟩
  have k0 := h0
  have lt0 : ∀ x ∈ p0, x.block < W.heap.size := by obtain ⟨m, hm⟩ := k0; exact DataW.trod_lt m _ _ _ hm
  have k1 := h1
  have lt1 : ∀ x ∈ p1, x.block < W.heap.size := by obtain ⟨m, hm⟩ := k1; exact DataW.trod_lt m _ _ _ hm
  have k2 := h2
  have lt2 : ∀ x ∈ p2, x.block < W.heap.size := by obtain ⟨m, hm⟩ := k2; exact DataW.trod_lt m _ _ _ hm
  have k3 := h3
  have lt3 : ∀ x ∈ p3, x.block < W.heap.size := by obtain ⟨m, hm⟩ := k3; exact DataW.trod_lt m _ _ _ hm
  obtain ⟨f0, rfl, hf0⟩ := open_field (fs := Tryd.prog.fieldsOf 27) (by kernel_rfl) (by kernel_rfl) Tryd.underlying22 Tryd.underlying23 Tryd.underlying5 Tryd.underlying25 Tryd.underlying24 (by kernel_rfl) (by kernel_rfl) (by kernel_rfl) (by kernel_rfl) (by kernel_rfl) (by kernel_rfl) (hval 0 27 v0 rfl rfl) h0
  obtain ⟨s1, z1, c1, G1, rfl, hz1, hi1, hg1⟩ := open_ints (ks := ksScarecrow) (fs := Tryd.prog.fieldsOf 71) Tryd.underlying28 (by kernel_rfl) (by decide) (by kernel_rfl) (by kernel_rfl) (hval 1 28 v1 rfl rfl) h1
  obtain ⟨n2, rfl, rfl, rfl, wn2⟩ := open_int Tryd.underlying2 (hval 2 2 v2 rfl rfl) h2
  obtain ⟨n3, rfl, rfl, rfl, wn3⟩ := open_int Tryd.underlying2 (hval 3 2 v3 rfl rfl) h3
  clear hA0 hval0 hV0
  refine (walk W f0 hf0 s1 z1 c1 G1 (by simpa [maxLen] using hz1) hi1 hg1 n2 wn2 n3 wn3 A SV.sents).mono fun e W' ⟨he, bel⟩ => ?_
  subst he
  exact ⟨_, rfl, _, _, _, [], _, _, hW', trodAll_mk1 (shut_bool Tryd.underlying4 _), (trodAll_cons_mk (Below.trod laidOut (by kernel_rfl) (of_decide_eq_true (by kernel_rfl)) k0 bel lt0) (trodAll_cons_mk (Below.trod laidOut (by kernel_rfl) (of_decide_eq_true (by kernel_rfl)) k1 bel lt1) (trodAll_cons_mk (Below.trod laidOut (by kernel_rfl) (of_decide_eq_true (by kernel_rfl)) k2 bel lt2) (trodAll_cons_mk (Below.trod laidOut (by kernel_rfl) (of_decide_eq_true (by kernel_rfl)) k3 bel lt3) trodAll_mk0)))), Below.trodVars laidOut bel (by kernel_rfl) hV, bel.frame _, fun h => by cases h⟩

theorem over : Rows.fnExactDaysSafeRow.holds Tryd.pinned (OpenSpec.ofChange Rows.fnExactDaysSafeSpec) :=
  OpenClaim.holds_of_wide 7 Tryd.f7 rfl rfl rfl rfl rfl rfl rfl ⟨rfl, rfl, rfl, rfl, rfl⟩ rfl rfl rfl rfl rfl (by kernel_rfl) Tryd.func7 (by kernel_rfl)
    (of_decide_eq_true (by kernel_rfl)) (by unfold Func.isWrapper; first | (rw [if_pos (by decide +kernel)]; kernel_rfl) | (rw [if_neg (by decide +kernel)]; exact ⟨rfl, rfl⟩))
    (fun os started H enc _ => lifted os started H enc)
theorem proved : Rows.FnExactDaysSafeCardSaid :=
  Claim7.holds_tied_plain_at .later [] [.sentinel, .sentinel, .sentinel, .sentinel, .sentinel, .sentinel, .sentinel, .sentinel] true (true, "2ef0efe3c10e24b18903b4a83b7c9f019ac16fe2d7bc9e790cc926e5091db74c") true
    over (fun _ h => by cases h) (by kernel_rfl) (fun _ h => by cases h) fnExactDaysSafe_row_tie rfl ⟨rfl, rfl⟩ (by kernel_rfl) rfl
    (fun f fn hf hfn => by
      obtain rfl : f = 7 := Option.some.inj ((show Tryd.prog.funcNamed "loop.example/g01338/laws.FnExactDaysSafe" = some 7 by kernel_rfl).symm.trans hf) |>.symm
      obtain rfl : fn = Tryd.f7 := (Option.some.inj (Tryd.func7.symm.trans hfn)).symm
      exact ⟨by kernel_rfl, fun j t ht => by
        rw [Tryd.params7] at ht
        have hm : t ∈ [27, 28, 2, 2] := by simpa using Array.mem_of_getElem? ht
        have hall : ([27, 28, 2, 2].all fun u => !Tryd.prog.wantsStandIn u) = true := by kernel_rfl
        exact (show Tryd.prog.wantsStandIn t = false by simpa using List.all_eq_true.1 hall t hm)⟩)
    (by kernel_rfl)
#print axioms proved
end Go.Proofs.YtpplakfmdjajiaaDoor.lawDaysSafe
