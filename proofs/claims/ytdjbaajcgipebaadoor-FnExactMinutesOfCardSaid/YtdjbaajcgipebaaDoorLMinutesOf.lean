/-
  MinutesOf: for all arguments the program answers as the model does, and its memory is its own: no condition beyond the listed sentinels, which the card ties to the program's text.
-/
import Derived.Test.YtdjbaajcgipebaaDoorMins
import Derived.Test.YtdjbaajcgipebaaDoorLstH
import Derived.Test.YtdjbaajcgipebaaDoorLawh
import Derived.Test.YtdjbaajcgipebaaDoorOpen
import Derived.Test.YtdjbaajcgipebaaDoorCard
import Derived.Test.YtdjbaajcgipebaaDoorTie
import Derived.Test.YtdjbaajcgipebaaDoorCards
import Derived.SevenTiedAt
import Derived.OpenVars
import Derived.ChangeOld
import Derived.Below
namespace Go.Proofs.YtdjbaajcgipebaaDoor.lawMinutesOf
open Go Go.ChangeShapes Go.WideShapes Go.ChangeAt Go.RowKit

set_option maxRecDepth 100000 in
set_option maxHeartbeats 16000000 in
theorem walk (w : World) (f : Fd) (hff : f.Wf) (sg : Option Addr) (zg cg : Nat) (g : Nat → Int) (hzg : zg ≤ 2 ^ 63 - 1) (hig : HJ w sg zg g) (hgg : WfH zg g) (x : Int) (wx : (Lit.int .i64 x).wf = true) (y : Int) (wy : (Lit.int .i64 y).wf = true) (A : Nat → Addr) (S0 : Sents w A) :
    Calls Tryd.prog 8 #[.agg (fcells f), .slice sg zg cg, .int .i64 x, .int .i64 y] w fun e w' => e = .returned (.bool true) ∧ Below w.heap.size w w' := by
  have S : Hid (Sents w A) := Lib.hid S0
  clear S0
  obtain ⟨x1, x2⟩ := bounds_i64 wx
  obtain ⟨y1, y2⟩ := bounds_i64 wy
  have Hhig := Lib.hid hig
  have Hhgg := Lib.hid hgg
  clear hig hgg
  by_cases hbg : 1048576 < zg
  · have tg : decide (1048576 < (zg : Int)) = true := decide_eq_true (by omega)
    go_enter Tryd.func8, Tryd.ntmps8
    go_upto_region 1 with (fail)
    obtain ⟨W0, hW, M0⟩ := open1 w (fcells f) 27
    rw [hW]; clear hW
    go_wp2_with (fail)
    go_ret
    exact ⟨rfl, M0.below⟩
  have qg : zg ≤ 2 ^ 40 := by omega
  have tg : decide (1048576 < (zg : Int)) = false := decide_eq_false (by omega)
  have hrb0 : ((minList f zg g x y).length) ≤ 2 ^ 40 := by have := minList_le f zg g x y; omega
  obtain ⟨rn0, hrn0⟩ : ∃ res, ((minList f zg g x y).length) = res := ⟨_, rfl⟩
  rw [hrn0] at hrb0
  have HR0 := Lib.hid hrn0
  clear hrn0
  obtain ⟨rv1, hrv1⟩ : ∃ res, (beatAsk f zg g x (isCell f y)) = res := ⟨_, rfl⟩
  have HR1 := Lib.hid hrv1
  clear hrv1
  go_enter Tryd.func8, Tryd.ntmps8
  go_upto_region 1 with (fail)
  obtain ⟨W0, hW, M0⟩ := open1 w (fcells f) 27
  rw [hW]; clear hW
  have HM0 := Lib.hid M0.before
  have z0 : w.heap.size ≤ W0.heap.size := M0.below.size
  have ok0_0 : True := trivial
  have ok0_1 : True := trivial
  have ok0_2 : True := trivial
  have ok0_3 : True := trivial
  go_upto_region 4 with (first
    | (clear ok0_0; refine wpList_load_part rfl 27 _ rfl (w.heap.size) 0 rfl (fcells f) _ (M0.at 0 rfl).whole Tryd.underlying27 rfl (by rw [fcells_size]; exact sizeFl) ?_)
    | (clear ok0_1; go_at_call 12; refine (toField _ _).mono ?_; rintro e W1 ⟨rfl, hb2⟩; have M3 := M0.call hb2; have z4 := hb2.size; clear hb2 M0)
    | (clear ok0_2; go_at_call 13; refine (Hto_any zg qg g sg cg _ (Hhig.out.later M3.below)).mono ?_; rintro e W5 ⟨b7, rfl, i13, v14, u15, hb6⟩; have M11 := M3.call hb6; have z12 := hb6.size; have F8 := Lib.hid i13; have F9 := Lib.hid v14; have F10 := Lib.hid u15; clear hb6 i13 v14 u15 M3)
    | (clear ok0_3; go_at_call 27; refine (specMinutesOf f hff zg qg g Hhgg.out x y b7 _ _ F8.out).mono ?_; rintro e W16 ⟨p20, c21, rfl, v22, u23, hb17⟩; rw [HR0.out, HR1.out]; rw [HR0.out] at v22 u23; have F24 := Lib.hid v22; have F25 := Lib.hid u23; have M18 := M11.call hb17; have z19 := hb17.size; clear hb17 v22 u23 M11 F8 F9 F10))
  go_upto_region 5 with (go_at_call 13; refine (Hto_any zg qg g sg cg _ (Hhig.out.later M18.below)).mono ?_; rintro e W26 ⟨b28, rfl, i36, v37, u38, hb27⟩; have M32 := M18.call hb27; have z33 := hb27.size; have F34 := Lib.hid (F24.out.later hb27); have F35 := Lib.hid (F25.out.later hb27); have F29 := Lib.hid i36; have F30 := Lib.hid v37; have F31 := Lib.hid u38; clear hb27 i36 v37 u38 M18 F24 F25)
  have ok2_0 : True := trivial
  have ok2_1 : True := trivial
  have ok2_2 : True := trivial
  go_upto_region 6 with (first
    | (clear ok2_0; refine wpList_load_part rfl 27 _ rfl (w.heap.size) 0 rfl (fcells f) _ (M32.at 0 rfl).whole Tryd.underlying27 rfl (by rw [fcells_size]; exact sizeFl) ?_)
    | (clear ok2_1; go_at_call 12; refine (toField _ _).mono ?_; rintro e W39 ⟨rfl, hb40⟩; have M41 := M32.call hb40; have z42 := hb40.size; have F43 := Lib.hid (F34.out.later hb40); have F44 := Lib.hid (F35.out.later hb40); have F45 := Lib.hid (F29.out.later hb40); have F46 := Lib.hid (F30.out.later hb40); have F47 := Lib.hid (F31.out.later hb40); clear hb40 M32 F34 F35 F29 F30 F31)
    | (clear ok2_2; go_at_call 28; refine (implMinutesOf f hff zg qg g Hhgg.out x y ⟨y1, y2⟩ b28 _ A _ F45.out (S.out.later M41.below)).mono ?_; rintro e W48 ⟨p57, c58, rfl, v59, u60, hb49⟩; rw [HR0.out, HR1.out]; rw [HR0.out] at v59 u60; have F61 := Lib.hid v59; have F62 := Lib.hid u60; have M50 := M41.call hb49; have z51 := hb49.size; have F52 := Lib.hid (F43.out.later hb49); have F53 := Lib.hid (F44.out.later hb49); have F54 := Lib.hid (F45.out.later hb49); have F55 := Lib.hid (F46.out.later hb49); have F56 := Lib.hid (F47.out.later hb49); clear hb49 v59 u60 M41 F43 F44 F45 F46 F47))
  go_upto_region 8 with (go_at_call 29; refine (Neq_J _ hrb0 _ _ _ _ _ _ F61.out.j F52.out.j).mono ?_; rintro e W63 ⟨rfl, hb64⟩; have M65 := M50.call hb64; have z66 := hb64.size; have F67 := Lib.hid (F52.out.later hb64); have F68 := Lib.hid (F53.out.later hb64); have F69 := Lib.hid (F54.out.later hb64); have F70 := Lib.hid (F55.out.later hb64); have F71 := Lib.hid (F56.out.later hb64); have F72 := Lib.hid (F61.out.later hb64); have F73 := Lib.hid (F62.out.later hb64); clear hb64 M50 F52 F53 F54 F55 F56 F61 F62)
  have ok4_0 : True := trivial
  have ok4_1 : True := trivial
  go_upto_region 11 with (first
    | (clear ok4_0; go_at_call 13; refine (Hto_any zg qg g sg cg _ (Hhig.out.later M65.below)).mono ?_; rintro e W74 ⟨b76, rfl, i89, v90, u91, hb75⟩; have M80 := M65.call hb75; have z81 := hb75.size; have F82 := Lib.hid (F67.out.later hb75); have F83 := Lib.hid (F68.out.later hb75); have F84 := Lib.hid (F69.out.later hb75); have F85 := Lib.hid (F70.out.later hb75); have F86 := Lib.hid (F71.out.later hb75); have F87 := Lib.hid (F72.out.later hb75); have F88 := Lib.hid (F73.out.later hb75); have F77 := Lib.hid i89; have F78 := Lib.hid v90; have F79 := Lib.hid u91; clear hb75 i89 v90 u91 M65 F67 F68 F69 F70 F71 F72 F73)
    | (clear ok4_1; go_at_call 15; refine (Heq_J _ qg _ _ _ _ _ _ F85.out.j F78.out.j).mono ?_; rintro e W92 ⟨rfl, hb93⟩; have M94 := M80.call hb93; have z95 := hb93.size; have F96 := Lib.hid (F82.out.later hb93); have F97 := Lib.hid (F83.out.later hb93); have F98 := Lib.hid (F84.out.later hb93); have F99 := Lib.hid (F85.out.later hb93); have F100 := Lib.hid (F86.out.later hb93); have F101 := Lib.hid (F87.out.later hb93); have F102 := Lib.hid (F88.out.later hb93); clear hb93 M80 F82 F83 F84 F85 F86 F87 F88 F77 F78 F79))
  go_upto_region 12 with (go_at_call 18; refine (Hmark_any _ qg (1) (by omega) _ _ _ F100.out).mono ?_; rintro e W103 ⟨rfl, hm105, v106⟩; have M108 := HMem.marked M94 hm105 (by omega) (fun i e h => Or.inl (Nat.lt_of_lt_of_le (HM0.out i e h) (by omega))); have z109 := hm105.size; have F110 := Lib.hid (F96.out.marked hm105 (by omega)); have F111 := Lib.hid (F97.out.marked hm105 (by omega)); have F112 := Lib.hid (F101.out.marked hm105 (by omega)); have F113 := Lib.hid (F102.out.marked hm105 (by omega)); have F107 := Lib.hid v106; clear hm105 v106 M94 F96 F97 F98 F99 F100 F101 F102)
  go_upto_region 15 with (go_at_call 29; refine (Neq_J _ hrb0 _ _ _ _ _ _ F112.out.j F110.out.j).mono ?_; rintro e W114 ⟨rfl, hb115⟩; have M116 := M108.call hb115; have z117 := hb115.size; have F118 := Lib.hid (F110.out.later hb115); have F119 := Lib.hid (F111.out.later hb115); have F120 := Lib.hid (F112.out.later hb115); have F121 := Lib.hid (F113.out.later hb115); clear hb115 M108 F110 F111 F112 F113 F107)
  go_upto_region 17 with (go_at_call 30; refine (Nmark_any _ hrb0 (1) (by omega) _ _ _ F121.out).mono ?_; rintro e W122 ⟨rfl, hm124, v125⟩; have M127 := NMem.marked M116 hm124 (by omega) (fun i e h => Or.inl (Nat.lt_of_lt_of_le (HM0.out i e h) (by omega))); have z128 := hm124.size; have F129 := Lib.hid (F118.out.marked hm124 (by omega)); have F130 := Lib.hid (F119.out.marked hm124 (by omega)); have F126 := Lib.hid v125; clear hm124 v125 M116 F118 F119 F120 F121)
  go_upto_region 22 with (go_at_call 31; refine (Nheld_any _ hrb0 (1) (by omega) _ _ _ F126.out).mono ?_; rintro e W131 ⟨rfl, hb132⟩; have M133 := M127.call hb132; have z134 := hb132.size; have F135 := Lib.hid (F129.out.later hb132); have F136 := Lib.hid (F130.out.later hb132); have F137 := Lib.hid (F126.out.later hb132); clear hb132 M127 F129 F130 F126)
  have ok9_0 : True := trivial
  have ok9_1 : True := trivial
  have ok9_2 : True := trivial
  have ok9_3 : True := trivial
  go_upto_region 23 with (first
    | (clear ok9_0; refine wpList_load_part rfl 27 _ rfl (w.heap.size) 0 rfl (fcells f) _ (M133.at 0 rfl).whole Tryd.underlying27 rfl (by rw [fcells_size]; exact sizeFl) ?_)
    | (clear ok9_1; go_at_call 12; refine (toField _ _).mono ?_; rintro e W138 ⟨rfl, hb139⟩; have M140 := M133.call hb139; have z141 := hb139.size; have F142 := Lib.hid (F135.out.later hb139); have F143 := Lib.hid (F136.out.later hb139); have F144 := Lib.hid (F137.out.later hb139); clear hb139 M133 F135 F136 F137)
    | (clear ok9_2; go_at_call 13; refine (Hto_any zg qg g sg cg _ (Hhig.out.later M140.below)).mono ?_; rintro e W145 ⟨b147, rfl, i156, v157, u158, hb146⟩; have M151 := M140.call hb146; have z152 := hb146.size; have F153 := Lib.hid (F142.out.later hb146); have F154 := Lib.hid (F143.out.later hb146); have F155 := Lib.hid (F144.out.later hb146); have F148 := Lib.hid i156; have F149 := Lib.hid v157; have F150 := Lib.hid u158; clear hb146 i156 v157 u158 M140 F142 F143 F144)
    | (clear ok9_3; go_at_call 28; refine (implMinutesOf f hff zg qg g Hhgg.out x y ⟨y1, y2⟩ b147 _ A _ F148.out (S.out.later M151.below)).mono ?_; rintro e W159 ⟨p166, c167, rfl, v168, u169, hb160⟩; rw [HR0.out, HR1.out]; rw [HR0.out] at v168 u169; have F170 := Lib.hid v168; have F171 := Lib.hid u169; have M161 := M151.call hb160; have z162 := hb160.size; have F163 := Lib.hid (F153.out.later hb160); have F164 := Lib.hid (F154.out.later hb160); have F165 := Lib.hid (F155.out.later hb160); clear hb160 v168 u169 M151 F153 F154 F155 F148 F149 F150))
  go_upto_region 26 with (go_at_call 29; refine (Neq_J _ hrb0 _ _ _ _ _ _ F170.out.j F163.out.j).mono ?_; rintro e W172 ⟨rfl, hb173⟩; have M174 := M161.call hb173; have z175 := hb173.size; have F176 := Lib.hid (F165.out.later hb173); clear hb173 M161 F163 F164 F165 F170 F171)
  go_wp2_with (go_at_call 31; refine (Nheld_any _ hrb0 (1) (by omega) _ _ _ F176.out).mono ?_; rintro e W177 ⟨rfl, hb178⟩; have M179 := M174.call hb178; have z180 := hb178.size; clear hb178 M174 F176)
  go_ret
  exact ⟨rfl, M179.below⟩
theorem trodVars_len {H : Type} {enc : TypeId × Value → H} {P : Program} {w : World} {sp : Nat → Bool} : ∀ {ns : List String} {gs : List (DataW H)} {ps : List MemPlace}, DataW.TrodVars enc P w sp ns gs ps → gs.length = ns.length
  | [], [], _, _ => rfl
  | [], _ :: _, _, h => h.elim
  | _ :: _, [], _, h => h.elim
  | _ :: _, _ :: _, _, ⟨_, _, _, _, _, _, _, _, _, _, h, _⟩ => congrArg (· + 1) (trodVars_len h)
theorem door_met (os : Os) (args : Array Value) : laidMetH Tryd.prog Rows.fnExactMinutesOfRow.laid ((World.doorLaid Tryd.prog 400 os).forCall (fun _ _ => 0) ⟨#[], args, []⟩).memory :=
  laidMetH_of_parts3 (fuel := 8) (laidMet_of_run' 8 (by kernel_rfl) (by kernel_rfl)) (by kernel_rfl) (by kernel_rfl)
set_option maxRecDepth 100000 in
theorem lifted (os : Os) (started : os.Started) (H : Type) (enc : TypeId × Value → H) :
    ReturnsInHanded {} Tryd.checked os 8 .any (fun w args => (Rows.fnExactMinutesOfSpec.pre enc Tryd.prog Tryd.f8 Rows.fnExactMinutesOfRow.domain false w args ∧ laidMetH Tryd.prog Rows.fnExactMinutesOfRow.laid w) ∧ sizedMet enc Tryd.prog Tryd.f8 (OpenSpec.ofChange Rows.fnExactMinutesOfSpec) false w args) (Rows.fnExactMinutesOfSpec.post enc Tryd.prog Tryd.f8 false true false false) := by
  refine returnsInHanded_of_change_and (C := Tryd.checked) (X := fun w _ => laidMetH Tryd.prog Rows.fnExactMinutesOfRow.laid w) (fun _ _ _ hh h => h.of_heap hh) own started (by kernel_rfl) Tryd.func8
    (ChangeSpec.witness_shaped (enc := enc) (C := Tryd.checked) (os := os) (X := fun w _ => laidMetH Tryd.prog Rows.fnExactMinutesOfRow.laid w) false (World.doorLaid Tryd.prog 400 os) #[.agg (fcells Fd.zero), .slice none 0 0, .int .i64 0, .int .i64 0] 8 rfl (World.shaped_of_RefB (by kernel_rfl) (by kernel_rfl)) (by kernel_rfl) (by kernel_rfl) (by kernel_rfl) (door_met os _)) ?_
  intro W base args ds gs before hval0 hW _ _ hL _
  have hval : ∀ (j : Nat) t v, Tryd.f8.params[j]? = some t → args[j]? = some v → Value.okWide Tryd.prog W .any base t v := hval0
  have hW' := hW
  obtain ⟨p, q, hA0, hV0, rfl, hfz, hnd⟩ := hW
  have hA : DataW.TrodAll enc Tryd.prog W 0 (fun _ => true) true Tryd.f8.params.toList args.toList ds p := hA0
  have hV : DataW.TrodVars enc Tryd.prog W (fun _ => true) Rows.fnExactMinutesOfSpec.vars gs q := hV0
  rw [Tryd.params8] at hA hval
  obtain ⟨v0, vs0, d0, ds0, p0, q0, hargs, rfl, rfl, h0, r0⟩ := trodAll_cons hA
  obtain ⟨v1, vs1, d1, ds1, p1, q1, rfl, rfl, rfl, h1, r1⟩ := trodAll_cons r0
  obtain ⟨v2, vs2, d2, ds2, p2, q2, rfl, rfl, rfl, h2, r2⟩ := trodAll_cons r1
  obtain ⟨v3, vs3, d3, ds3, p3, q3, rfl, rfl, rfl, h3, r3⟩ := trodAll_cons r2
  obtain ⟨rfl, rfl, rfl⟩ := trodAll_nil r3
  obtain rfl : args = #[v0, v1, v2, v3] := by cases args; simp_all
  rw [MakeChecks.laidMetH_plain _ _ _ (by kernel_rfl)] at hL
  obtain ⟨A, SV⟩ := sentVars (rest := []) hL
  have hlen := trodVars_len hV
  obtain ⟨gv1, gv2, gv3, gv4, gv5, gv6, gv7, gv8, rfl⟩ : ∃ gv1 gv2 gv3 gv4 gv5 gv6 gv7 gv8, gs = [gv1, gv2, gv3, gv4, gv5, gv6, gv7, gv8] := by
    match gs, hlen with
    | [gv1, gv2, gv3, gv4, gv5, gv6, gv7, gv8], _ => exact ⟨gv1, gv2, gv3, gv4, gv5, gv6, gv7, gv8, rfl⟩
  have k0 := h0
  have lt0 : ∀ x ∈ p0, x.block < W.heap.size := by obtain ⟨m, hm⟩ := k0; exact DataW.trod_lt m _ _ _ hm
  have k1 := h1
  have lt1 : ∀ x ∈ p1, x.block < W.heap.size := by obtain ⟨m, hm⟩ := k1; exact DataW.trod_lt m _ _ _ hm
  have k2 := h2
  have lt2 : ∀ x ∈ p2, x.block < W.heap.size := by obtain ⟨m, hm⟩ := k2; exact DataW.trod_lt m _ _ _ hm
  have k3 := h3
  have lt3 : ∀ x ∈ p3, x.block < W.heap.size := by obtain ⟨m, hm⟩ := k3; exact DataW.trod_lt m _ _ _ hm
  obtain ⟨f0, rfl, hf0⟩ := open_field (fs := Tryd.prog.fieldsOf 27) (by kernel_rfl) (by kernel_rfl) Tryd.underlying22 Tryd.underlying23 Tryd.underlying5 Tryd.underlying25 Tryd.underlying24 (by kernel_rfl) (by kernel_rfl) (by kernel_rfl) (by kernel_rfl) (by kernel_rfl) (by kernel_rfl) (hval 0 27 v0 rfl rfl) h0
  obtain ⟨s1, z1, c1, g1, rfl, hz1, hi1, hg1⟩ := open_halves Tryd.underlying28 Tryd.underlying24 (by kernel_rfl) (hval 1 28 v1 rfl rfl) h1
  obtain ⟨n2, rfl, rfl, rfl, wn2⟩ := open_int Tryd.underlying2 (hval 2 2 v2 rfl rfl) h2
  obtain ⟨n3, rfl, rfl, rfl, wn3⟩ := open_int Tryd.underlying2 (hval 3 2 v3 rfl rfl) h3
  clear hA0 hval0 hV0
  refine (walk W f0 hf0 s1 z1 c1 g1 (by simpa [maxLen] using hz1) hi1 hg1 n2 wn2 n3 wn3 A SV.sents).mono fun e W' ⟨he, bel⟩ => ?_
  subst he
  exact ⟨_, rfl, _, _, _, [], _, _, hW', trodAll_mk1 (shut_bool Tryd.underlying4 _), (trodAll_cons_mk (Below.trod laidOut (by kernel_rfl) (of_decide_eq_true (by kernel_rfl)) k0 bel lt0) (trodAll_cons_mk (Below.trod laidOut (by kernel_rfl) (of_decide_eq_true (by kernel_rfl)) k1 bel lt1) (trodAll_cons_mk (Below.trod laidOut (by kernel_rfl) (of_decide_eq_true (by kernel_rfl)) k2 bel lt2) (trodAll_cons_mk (Below.trod laidOut (by kernel_rfl) (of_decide_eq_true (by kernel_rfl)) k3 bel lt3) trodAll_mk0)))), Below.trodVars laidOut bel (by kernel_rfl) hV, bel.frame _, fun h => by cases h⟩

theorem over : Rows.fnExactMinutesOfRow.holds Tryd.pinned (OpenSpec.ofChange Rows.fnExactMinutesOfSpec) :=
  OpenClaim.holds_of_wide 8 Tryd.f8 rfl rfl rfl rfl rfl rfl rfl ⟨rfl, rfl, rfl, rfl, rfl⟩ rfl rfl rfl rfl rfl (by kernel_rfl) Tryd.func8 (by kernel_rfl)
    (of_decide_eq_true (by kernel_rfl)) (by unfold Func.isWrapper; first | (rw [if_pos (by decide +kernel)]; kernel_rfl) | (rw [if_neg (by decide +kernel)]; exact ⟨rfl, rfl⟩))
    (fun os started H enc _ => lifted os started H enc)
theorem proved : Rows.FnExactMinutesOfCardSaid :=
  Claim7.holds_tied_plain_at .later [] [.sentinel, .sentinel, .sentinel, .sentinel, .sentinel, .sentinel, .sentinel, .sentinel] true (true, "0914e1a8d4c6ef4525306dc8f4027847270c55f222ee511d88e75d1d73e992d1") true
    over (fun _ h => by cases h) (by kernel_rfl) (fun _ h => by cases h) fnExactMinutesOf_row_tie rfl ⟨rfl, rfl⟩ (by kernel_rfl) rfl
    (fun f fn hf hfn => by
      obtain rfl : f = 8 := Option.some.inj ((show Tryd.prog.funcNamed "loop.example/g01338/laws.FnExactMinutesOf" = some 8 by kernel_rfl).symm.trans hf) |>.symm
      obtain rfl : fn = Tryd.f8 := (Option.some.inj (Tryd.func8.symm.trans hfn)).symm
      exact ⟨by kernel_rfl, fun j t ht => by
        rw [Tryd.params8] at ht
        have hm : t ∈ [27, 28, 2, 2] := by simpa using Array.mem_of_getElem? ht
        have hall : ([27, 28, 2, 2].all fun u => !Tryd.prog.wantsStandIn u) = true := by kernel_rfl
        exact (show Tryd.prog.wantsStandIn t = false by simpa using List.all_eq_true.1 hall t hm)⟩)
    (by kernel_rfl)
#print axioms proved
end Go.Proofs.YtdjbaajcgipebaaDoor.lawMinutesOf
