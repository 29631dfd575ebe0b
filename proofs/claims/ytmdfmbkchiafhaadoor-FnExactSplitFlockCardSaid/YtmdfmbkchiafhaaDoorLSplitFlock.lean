/-
  SplitFlock: for all arguments the program answers as the model does, and its memory is its own: no condition beyond the listed sentinels, which the card ties to the program's text.
-/
import Derived.Test.YtmdfmbkchiafhaaDoorSpF
import Derived.Test.YtmdfmbkchiafhaaDoorLstF
import Derived.Test.YtmdfmbkchiafhaaDoorLawh
import Derived.Test.YtmdfmbkchiafhaaDoorCoreB
import Derived.Test.YtmdfmbkchiafhaaDoorCard
import Derived.Test.YtmdfmbkchiafhaaDoorTie
import Derived.Test.YtmdfmbkchiafhaaDoorCards
import Derived.Test.YtmdfmbkchiafhaaDoorTab
import Derived.SevenTiedAt
import Derived.OpenVars
import Derived.ChangeOld
import Derived.Below
namespace Go.Proofs.YtmdfmbkchiafhaaDoor.lawSplitFlock
open Go Go.ChangeShapes Go.WideShapes Go.ChangeAt Go.RowKit

set_option maxRecDepth 100000 in
set_option maxHeartbeats 16000000 in
theorem walk (w : World) (f : Fd) (hff : f.Wf) (sl : Option Addr) (zl cl : Nat) (l : Nat → Nat → Int) (hzl : zl ≤ 2 ^ 63 - 1) (hil : InA ksFlock w sl zl l) (hgl : WfS ksFlock zl l) (x : Int) (wx : (Lit.int .i64 x).wf = true) (y : Int) (wy : (Lit.int .i64 y).wf = true) (A : Nat → Addr) (T0 : TabAt w) (S0 : Sents w A) :
    Calls Tryd.prog 8 #[.agg (fcells f), .slice sl zl cl, .int .i64 x, .int .i64 y] w fun e w' => e = .returned (.bool true) ∧ Below w.heap.size w w' := by
  have S : Hid (Sents w A) := Lib.hid S0
  clear S0
  have T : Hid (TabAt w) := Lib.hid T0
  clear T0
  obtain ⟨x1, x2⟩ := bounds_i64 wx
  obtain ⟨y1, y2⟩ := bounds_i64 wy
  have Hhil := Lib.hid hil
  have Hhgl := Lib.hid hgl
  clear hil hgl
  by_cases hbl : 1048576 < zl
  · have tl : decide (1048576 < (zl : Int)) = true := decide_eq_true (by omega)
    go_enter Tryd.func8, Tryd.ntmps8
    go_upto_region 1 with (fail)
    obtain ⟨W0, hW, M0⟩ := open1 w (fcells f) 27
    rw [hW]; clear hW
    go_wp2_with (first | (go_at_call 27; refine (szFlockS_any zl cl (by omega) sl _ (by omega) (by omega) (by omega) _).mono ?_; rintro e w9 ⟨rfl, rfl⟩; rw [if_pos (by omega)]))
    go_ret
    exact ⟨rfl, M0.below⟩
  have ql : zl ≤ 2 ^ 40 := by omega
  have tl : decide (1048576 < (zl : Int)) = false := decide_eq_false (by omega)
  have hrb0 : (sfN f zl l x y) ≤ 2 ^ 40 := sfN_le f zl l x y (by omega)
  obtain ⟨rn0, hrn0⟩ : ∃ res, (sfN f zl l x y) = res := ⟨_, rfl⟩
  rw [hrn0] at hrb0
  have HR0 := Lib.hid hrn0
  clear hrn0
  obtain ⟨rv1, hrv1⟩ : ∃ res, (sfCode f zl l x y) = res := ⟨_, rfl⟩
  have HR1 := Lib.hid hrv1
  clear hrv1
  go_enter Tryd.func8, Tryd.ntmps8
  go_upto_region 1 with (fail)
  obtain ⟨W0, hW, M0⟩ := open1 w (fcells f) 27
  rw [hW]; clear hW
  have HM0 := Lib.hid M0.before
  have z0 : w.heap.size ≤ W0.heap.size := M0.below.size
  go_upto_region 5 with (go_at_call 27; refine (szFlockS_any zl cl (by omega) sl _ (by omega) (by omega) (by omega) _).mono ?_; rintro e w9 ⟨rfl, rfl⟩; rw [if_neg (by omega)])
  have ok1_0 : True := trivial
  have ok1_1 : True := trivial
  have ok1_2 : True := trivial
  have ok1_3 : True := trivial
  go_upto_region 6 with (first
    | (clear ok1_0; refine wpList_load_part rfl 27 _ rfl (w.heap.size) 0 rfl (fcells f) _ (M0.at 0 rfl).whole Tryd.underlying27 rfl (by rw [fcells_size]; exact sizeFl) ?_)
    | (clear ok1_1; go_at_call 11; refine (toField _ _).mono ?_; rintro e W3 ⟨rfl, hb4⟩; have M5 := M0.call hb4; have z6 := hb4.size; clear hb4 M0)
    | (clear ok1_2; go_at_call 29; refine (Fto_any zl ql l sl cl _ (Hhil.out.later M5.below)).mono ?_; rintro e W7 ⟨b9, rfl, i15, v16, u17, hb8⟩; have M13 := M5.call hb8; have z14 := hb8.size; have F10 := Lib.hid i15; have F11 := Lib.hid v16; have F12 := Lib.hid u17; clear hb8 i15 v16 u17 M5)
    | (clear ok1_3; go_at_call 34; refine (specSplitFlock f hff zl ql l Hhgl.out x y ⟨y1, y2⟩ b9 zl _ F10.out).mono ?_; rintro e W18 ⟨p22, c23, rfl, v24, u25, hb19⟩; rw [HR0.out, HR1.out]; rw [HR0.out] at v24 u25; have F26 := Lib.hid v24; have F27 := Lib.hid u25; have M20 := M13.call hb19; have z21 := hb19.size; clear hb19 v24 u25 M13 F10 F11 F12))
  go_upto_region 7 with (go_at_call 29; refine (Fto_any zl ql l sl cl _ (Hhil.out.later M20.below)).mono ?_; rintro e W28 ⟨b30, rfl, i38, v39, u40, hb29⟩; have M34 := M20.call hb29; have z35 := hb29.size; have F36 := Lib.hid (F26.out.later hb29); have F37 := Lib.hid (F27.out.later hb29); have F31 := Lib.hid i38; have F32 := Lib.hid v39; have F33 := Lib.hid u40; clear hb29 i38 v39 u40 M20 F26 F27)
  have ok3_0 : True := trivial
  have ok3_1 : True := trivial
  have ok3_2 : True := trivial
  go_upto_region 8 with (first
    | (clear ok3_0; refine wpList_load_part rfl 27 _ rfl (w.heap.size) 0 rfl (fcells f) _ (M34.at 0 rfl).whole Tryd.underlying27 rfl (by rw [fcells_size]; exact sizeFl) ?_)
    | (clear ok3_1; go_at_call 11; refine (toField _ _).mono ?_; rintro e W41 ⟨rfl, hb42⟩; have M43 := M34.call hb42; have z44 := hb42.size; have F45 := Lib.hid (F36.out.later hb42); have F46 := Lib.hid (F37.out.later hb42); have F47 := Lib.hid (F31.out.later hb42); have F48 := Lib.hid (F32.out.later hb42); have F49 := Lib.hid (F33.out.later hb42); clear hb42 M34 F36 F37 F31 F32 F33)
    | (clear ok3_2; go_at_call 35; refine (implSplitFlock f hff zl ql l Hhgl.out x ⟨x1, x2⟩ y ⟨y1, y2⟩ b30 zl A _ F47.out (T.out.later M43.below) (S.out.later M43.below)).mono ?_; rintro e W50 ⟨p59, c60, rfl, v61, u62, hb51⟩; rw [HR0.out, HR1.out]; rw [HR0.out] at v61 u62; have F63 := Lib.hid v61; have F64 := Lib.hid u62; have M52 := M43.call hb51; have z53 := hb51.size; have F54 := Lib.hid (F45.out.later hb51); have F55 := Lib.hid (F46.out.later hb51); have F56 := Lib.hid (F47.out.later hb51); have F57 := Lib.hid (F48.out.later hb51); have F58 := Lib.hid (F49.out.later hb51); clear hb51 v61 u62 M43 F45 F46 F47 F48 F49))
  go_upto_region 10 with (go_at_call 31; refine (Feq_J _ hrb0 _ _ _ _ _ _ F63.out.j F54.out.j).mono ?_; rintro e W65 ⟨rfl, hb66⟩; have M67 := M52.call hb66; have z68 := hb66.size; have F69 := Lib.hid (F54.out.later hb66); have F70 := Lib.hid (F55.out.later hb66); have F71 := Lib.hid (F56.out.later hb66); have F72 := Lib.hid (F57.out.later hb66); have F73 := Lib.hid (F58.out.later hb66); have F74 := Lib.hid (F63.out.later hb66); have F75 := Lib.hid (F64.out.later hb66); clear hb66 M52 F54 F55 F56 F57 F58 F63 F64)
  have ok5_0 : True := trivial
  have ok5_1 : True := trivial
  go_upto_region 13 with (first
    | (clear ok5_0; go_at_call 29; refine (Fto_any zl ql l sl cl _ (Hhil.out.later M67.below)).mono ?_; rintro e W76 ⟨b78, rfl, i91, v92, u93, hb77⟩; have M82 := M67.call hb77; have z83 := hb77.size; have F84 := Lib.hid (F69.out.later hb77); have F85 := Lib.hid (F70.out.later hb77); have F86 := Lib.hid (F71.out.later hb77); have F87 := Lib.hid (F72.out.later hb77); have F88 := Lib.hid (F73.out.later hb77); have F89 := Lib.hid (F74.out.later hb77); have F90 := Lib.hid (F75.out.later hb77); have F79 := Lib.hid i91; have F80 := Lib.hid v92; have F81 := Lib.hid u93; clear hb77 i91 v92 u93 M67 F69 F70 F71 F72 F73 F74 F75)
    | (clear ok5_1; go_at_call 31; refine (Feq_J _ ql _ _ _ _ _ _ F87.out.j F80.out.j).mono ?_; rintro e W94 ⟨rfl, hb95⟩; have M96 := M82.call hb95; have z97 := hb95.size; have F98 := Lib.hid (F84.out.later hb95); have F99 := Lib.hid (F85.out.later hb95); have F100 := Lib.hid (F86.out.later hb95); have F101 := Lib.hid (F87.out.later hb95); have F102 := Lib.hid (F88.out.later hb95); have F103 := Lib.hid (F89.out.later hb95); have F104 := Lib.hid (F90.out.later hb95); clear hb95 M82 F84 F85 F86 F87 F88 F89 F90 F79 F80 F81))
  go_upto_region 14 with (go_at_call 32; refine (Fmark_any _ ql (1) (by omega) _ _ _ F102.out).mono ?_; rintro e W105 ⟨rfl, hm107, v108⟩; have M110 := FMem.marked M96 hm107 (by omega) (fun i e h => Or.inl (Nat.lt_of_lt_of_le (HM0.out i e h) (by omega))); have z111 := hm107.size; have F112 := Lib.hid (F98.out.marked hm107 (by omega)); have F113 := Lib.hid (F99.out.marked hm107 (by omega)); have F114 := Lib.hid (F103.out.marked hm107 (by omega)); have F115 := Lib.hid (F104.out.marked hm107 (by omega)); have F109 := Lib.hid v108; clear hm107 v108 M96 F98 F99 F100 F101 F102 F103 F104)
  go_upto_region 17 with (go_at_call 31; refine (Feq_J _ hrb0 _ _ _ _ _ _ F114.out.j F112.out.j).mono ?_; rintro e W116 ⟨rfl, hb117⟩; have M118 := M110.call hb117; have z119 := hb117.size; have F120 := Lib.hid (F112.out.later hb117); have F121 := Lib.hid (F113.out.later hb117); have F122 := Lib.hid (F114.out.later hb117); have F123 := Lib.hid (F115.out.later hb117); clear hb117 M110 F112 F113 F114 F115 F109)
  go_upto_region 19 with (go_at_call 32; refine (Fmark_any _ hrb0 (1) (by omega) _ _ _ F123.out).mono ?_; rintro e W124 ⟨rfl, hm126, v127⟩; have M129 := FMem.marked M118 hm126 (by omega) (fun i e h => Or.inl (Nat.lt_of_lt_of_le (HM0.out i e h) (by omega))); have z130 := hm126.size; have F131 := Lib.hid (F120.out.marked hm126 (by omega)); have F132 := Lib.hid (F121.out.marked hm126 (by omega)); have F128 := Lib.hid v127; clear hm126 v127 M118 F120 F121 F122 F123)
  go_upto_region 24 with (go_at_call 33; refine (Fheld_any _ hrb0 (1) (by omega) _ _ _ F128.out).mono ?_; rintro e W133 ⟨rfl, hb134⟩; have M135 := M129.call hb134; have z136 := hb134.size; have F137 := Lib.hid (F131.out.later hb134); have F138 := Lib.hid (F132.out.later hb134); have F139 := Lib.hid (F128.out.later hb134); clear hb134 M129 F131 F132 F128)
  have ok10_0 : True := trivial
  have ok10_1 : True := trivial
  have ok10_2 : True := trivial
  have ok10_3 : True := trivial
  go_upto_region 25 with (first
    | (clear ok10_0; refine wpList_load_part rfl 27 _ rfl (w.heap.size) 0 rfl (fcells f) _ (M135.at 0 rfl).whole Tryd.underlying27 rfl (by rw [fcells_size]; exact sizeFl) ?_)
    | (clear ok10_1; go_at_call 11; refine (toField _ _).mono ?_; rintro e W140 ⟨rfl, hb141⟩; have M142 := M135.call hb141; have z143 := hb141.size; have F144 := Lib.hid (F137.out.later hb141); have F145 := Lib.hid (F138.out.later hb141); have F146 := Lib.hid (F139.out.later hb141); clear hb141 M135 F137 F138 F139)
    | (clear ok10_2; go_at_call 29; refine (Fto_any zl ql l sl cl _ (Hhil.out.later M142.below)).mono ?_; rintro e W147 ⟨b149, rfl, i158, v159, u160, hb148⟩; have M153 := M142.call hb148; have z154 := hb148.size; have F155 := Lib.hid (F144.out.later hb148); have F156 := Lib.hid (F145.out.later hb148); have F157 := Lib.hid (F146.out.later hb148); have F150 := Lib.hid i158; have F151 := Lib.hid v159; have F152 := Lib.hid u160; clear hb148 i158 v159 u160 M142 F144 F145 F146)
    | (clear ok10_3; go_at_call 35; refine (implSplitFlock f hff zl ql l Hhgl.out x ⟨x1, x2⟩ y ⟨y1, y2⟩ b149 zl A _ F150.out (T.out.later M153.below) (S.out.later M153.below)).mono ?_; rintro e W161 ⟨p168, c169, rfl, v170, u171, hb162⟩; rw [HR0.out, HR1.out]; rw [HR0.out] at v170 u171; have F172 := Lib.hid v170; have F173 := Lib.hid u171; have M163 := M153.call hb162; have z164 := hb162.size; have F165 := Lib.hid (F155.out.later hb162); have F166 := Lib.hid (F156.out.later hb162); have F167 := Lib.hid (F157.out.later hb162); clear hb162 v170 u171 M153 F155 F156 F157 F150 F151 F152))
  go_upto_region 28 with (go_at_call 31; refine (Feq_J _ hrb0 _ _ _ _ _ _ F172.out.j F165.out.j).mono ?_; rintro e W174 ⟨rfl, hb175⟩; have M176 := M163.call hb175; have z177 := hb175.size; have F178 := Lib.hid (F167.out.later hb175); clear hb175 M163 F165 F166 F167 F172 F173)
  go_wp2_with (go_at_call 33; refine (Fheld_any _ hrb0 (1) (by omega) _ _ _ F178.out).mono ?_; rintro e W179 ⟨rfl, hb180⟩; have M181 := M176.call hb180; have z182 := hb180.size; clear hb180 M176 F178)
  go_ret
  exact ⟨rfl, M181.below⟩
theorem trodVars_len {H : Type} {enc : TypeId × Value → H} {P : Program} {w : World} {sp : Nat → Bool} : ∀ {ns : List String} {gs : List (DataW H)} {ps : List MemPlace}, DataW.TrodVars enc P w sp ns gs ps → gs.length = ns.length
  | [], [], _, _ => rfl
  | [], _ :: _, _, h => h.elim
  | _ :: _, [], _, h => h.elim
  | _ :: _, _ :: _, _, ⟨_, _, _, _, _, _, _, _, _, _, h, _⟩ => congrArg (· + 1) (trodVars_len h)
theorem door_met (os : Os) (args : Array Value) : laidMetH Tryd.prog Rows.fnExactSplitFlockRow.laid ((World.doorLaid Tryd.prog 400 os).forCall (fun _ _ => 0) ⟨#[], args, []⟩).memory :=
  laidMetH_of_parts3 (fuel := 8) (laidMet_of_run' 8 (by kernel_rfl) (by kernel_rfl)) (by kernel_rfl) (by kernel_rfl)
set_option maxRecDepth 100000 in
theorem lifted (os : Os) (started : os.Started) (H : Type) (enc : TypeId × Value → H) :
    ReturnsInHanded {} Tryd.checked os 8 .any (fun w args => (Rows.fnExactSplitFlockSpec.pre enc Tryd.prog Tryd.f8 Rows.fnExactSplitFlockRow.domain false w args ∧ laidMetH Tryd.prog Rows.fnExactSplitFlockRow.laid w) ∧ sizedMet enc Tryd.prog Tryd.f8 (OpenSpec.ofChange Rows.fnExactSplitFlockSpec) false w args) (Rows.fnExactSplitFlockSpec.post enc Tryd.prog Tryd.f8 false true false false) := by
  refine returnsInHanded_of_change_and (C := Tryd.checked) (X := fun w _ => laidMetH Tryd.prog Rows.fnExactSplitFlockRow.laid w) (fun _ _ _ hh h => h.of_heap hh) own started (by kernel_rfl) Tryd.func8
    (ChangeSpec.witness_shaped (enc := enc) (C := Tryd.checked) (os := os) (X := fun w _ => laidMetH Tryd.prog Rows.fnExactSplitFlockRow.laid w) false (World.doorLaid Tryd.prog 400 os) #[.agg (fcells Fd.zero), .slice none 0 0, .int .i64 0, .int .i64 0] 8 rfl (World.shaped_of_RefB (by kernel_rfl) (by kernel_rfl)) (by kernel_rfl) (by kernel_rfl) (by kernel_rfl) (door_met os _)) ?_
  intro W base args ds gs before hval0 hW _ _ hL _
  have hval : ∀ (j : Nat) t v, Tryd.f8.params[j]? = some t → args[j]? = some v → Value.okWide Tryd.prog W .any base t v := hval0
  have hW' := hW
  obtain ⟨p, q, hA0, hV0, rfl, hfz, hnd⟩ := hW
  have hA : DataW.TrodAll enc Tryd.prog W 0 (fun _ => true) true Tryd.f8.params.toList args.toList ds p := hA0
  have hV : DataW.TrodVars enc Tryd.prog W (fun _ => true) Rows.fnExactSplitFlockSpec.vars gs q := hV0
  rw [Tryd.params8] at hA hval
  obtain ⟨v0, vs0, d0, ds0, p0, q0, hargs, rfl, rfl, h0, r0⟩ := trodAll_cons hA
  obtain ⟨v1, vs1, d1, ds1, p1, q1, rfl, rfl, rfl, h1, r1⟩ := trodAll_cons r0
  obtain ⟨v2, vs2, d2, ds2, p2, q2, rfl, rfl, rfl, h2, r2⟩ := trodAll_cons r1
  obtain ⟨v3, vs3, d3, ds3, p3, q3, rfl, rfl, rfl, h3, r3⟩ := trodAll_cons r2
  obtain ⟨rfl, rfl, rfl⟩ := trodAll_nil r3
  obtain rfl : args = #[v0, v1, v2, v3] := by cases args; simp_all
  rw [MakeChecks.laidMetH_plain _ _ _ (by kernel_rfl)] at hL
  obtain ⟨A, SV⟩ := sentVars (rest := [(tabName, Rows.laid_loop_example_g01338_impl_mostOfFlock)]) hL
  have T : TabAt W := by
    obtain ⟨ps, hv, _, _⟩ := hL
    obtain ⟨_, _, _, _, _, _, _, _, _, _, hv, _⟩ := hv
    obtain ⟨_, _, _, _, _, _, _, _, _, _, hv, _⟩ := hv
    obtain ⟨_, _, _, _, _, _, _, _, _, _, hv, _⟩ := hv
    obtain ⟨_, _, _, _, _, _, _, _, _, _, hv, _⟩ := hv
    obtain ⟨_, _, _, _, _, _, _, _, _, _, hv, _⟩ := hv
    obtain ⟨_, _, _, _, _, _, _, _, _, _, hv, _⟩ := hv
    obtain ⟨_, _, _, _, _, _, _, _, _, _, hv, _⟩ := hv
    obtain ⟨_, _, _, _, _, _, _, _, _, _, hv, _⟩ := hv
    exact tab_of hv
  have hlen := trodVars_len hV
  obtain ⟨gv1, gv2, gv3, gv4, gv5, gv6, gv7, gv8, gv9, rfl⟩ : ∃ gv1 gv2 gv3 gv4 gv5 gv6 gv7 gv8 gv9, gs = [gv1, gv2, gv3, gv4, gv5, gv6, gv7, gv8, gv9] := by
    match gs, hlen with
    | [gv1, gv2, gv3, gv4, gv5, gv6, gv7, gv8, gv9], _ => exact ⟨gv1, gv2, gv3, gv4, gv5, gv6, gv7, gv8, gv9, rfl⟩
  have k0 := h0
  have lt0 : ∀ x ∈ p0, x.block < W.heap.size := by obtain ⟨m, hm⟩ := k0; exact DataW.trod_lt m _ _ _ hm
  have k1 := h1
  have lt1 : ∀ x ∈ p1, x.block < W.heap.size := by obtain ⟨m, hm⟩ := k1; exact DataW.trod_lt m _ _ _ hm
  have k2 := h2
  have lt2 : ∀ x ∈ p2, x.block < W.heap.size := by obtain ⟨m, hm⟩ := k2; exact DataW.trod_lt m _ _ _ hm
  have k3 := h3
  have lt3 : ∀ x ∈ p3, x.block < W.heap.size := by obtain ⟨m, hm⟩ := k3; exact DataW.trod_lt m _ _ _ hm
  obtain ⟨f0, rfl, hf0⟩ := open_field (fs := Tryd.prog.fieldsOf 27) (by kernel_rfl) (by kernel_rfl) Tryd.underlying22 Tryd.underlying23 Tryd.underlying5 Tryd.underlying25 Tryd.underlying24 (by kernel_rfl) (by kernel_rfl) (by kernel_rfl) (by kernel_rfl) (by kernel_rfl) (by kernel_rfl) (hval 0 27 v0 rfl rfl) h0
  obtain ⟨s1, z1, c1, G1, rfl, hz1, hi1, hg1⟩ := open_ints (ks := ksFlock) (fs := Tryd.prog.fieldsOf 105) Tryd.underlying53 (by kernel_rfl) (by decide) (by kernel_rfl) (by kernel_rfl) (hval 1 53 v1 rfl rfl) h1
  obtain ⟨n2, rfl, rfl, rfl, wn2⟩ := open_int Tryd.underlying2 (hval 2 2 v2 rfl rfl) h2
  obtain ⟨n3, rfl, rfl, rfl, wn3⟩ := open_int Tryd.underlying2 (hval 3 2 v3 rfl rfl) h3
  clear hA0 hval0 hV0
  refine (walk W f0 hf0 s1 z1 c1 G1 (by simpa [maxLen] using hz1) hi1 hg1 n2 wn2 n3 wn3 A T SV.sents).mono fun e W' ⟨he, bel⟩ => ?_
  subst he
  exact ⟨_, rfl, _, _, _, [], _, _, hW', trodAll_mk1 (shut_bool Tryd.underlying4 _), (trodAll_cons_mk (Below.trod laidOut (by kernel_rfl) (of_decide_eq_true (by kernel_rfl)) k0 bel lt0) (trodAll_cons_mk (Below.trod laidOut (by kernel_rfl) (of_decide_eq_true (by kernel_rfl)) k1 bel lt1) (trodAll_cons_mk (Below.trod laidOut (by kernel_rfl) (of_decide_eq_true (by kernel_rfl)) k2 bel lt2) (trodAll_cons_mk (Below.trod laidOut (by kernel_rfl) (of_decide_eq_true (by kernel_rfl)) k3 bel lt3) trodAll_mk0)))), Below.trodVars laidOut bel (by kernel_rfl) hV, bel.frame _, fun h => by cases h⟩

theorem over : Rows.fnExactSplitFlockRow.holds Tryd.pinned (OpenSpec.ofChange Rows.fnExactSplitFlockSpec) :=
  OpenClaim.holds_of_wide 8 Tryd.f8 rfl rfl rfl rfl rfl rfl rfl ⟨rfl, rfl, rfl, rfl, rfl⟩ rfl rfl rfl rfl rfl (by kernel_rfl) Tryd.func8 (by kernel_rfl)
    (of_decide_eq_true (by kernel_rfl)) (by unfold Func.isWrapper; first | (rw [if_pos (by decide +kernel)]; kernel_rfl) | (rw [if_neg (by decide +kernel)]; exact ⟨rfl, rfl⟩))
    (fun os started H enc _ => lifted os started H enc)
theorem proved : Rows.FnExactSplitFlockCardSaid :=
  Claim7.holds_tied_plain_at .later [] [.sentinel, .sentinel, .sentinel, .sentinel, .sentinel, .sentinel, .sentinel, .sentinel, .data] true (true, "7a2200b5278f65085a9624d6ebea4e787744d21a7c17fe6f443cc81c62e32d00") true
    over (fun _ h => by cases h) (by kernel_rfl) (fun _ h => by cases h) fnExactSplitFlock_row_tie rfl ⟨rfl, rfl⟩ (by kernel_rfl) rfl
    (fun f fn hf hfn => by
      obtain rfl : f = 8 := Option.some.inj ((show Tryd.prog.funcNamed "loop.example/g01338/laws.FnExactSplitFlock" = some 8 by kernel_rfl).symm.trans hf) |>.symm
      obtain rfl : fn = Tryd.f8 := (Option.some.inj (Tryd.func8.symm.trans hfn)).symm
      exact ⟨by kernel_rfl, fun j t ht => by
        rw [Tryd.params8] at ht
        have hm : t ∈ [27, 53, 2, 2] := by simpa using Array.mem_of_getElem? ht
        have hall : ([27, 53, 2, 2].all fun u => !Tryd.prog.wantsStandIn u) = true := by kernel_rfl
        exact (show Tryd.prog.wantsStandIn t = false by simpa using List.all_eq_true.1 hall t hm)⟩)
    (by kernel_rfl)
#print axioms proved
end Go.Proofs.YtmdfmbkchiafhaaDoor.lawSplitFlock
