/-
  LostBy: for all arguments the program answers as the model does, and its memory is its own: no condition beyond the listed sentinels, which the card ties to the program's text.
-/
import Derived.Test.YtmiafnmenolemaaDoorLost
import Derived.Test.YtmiafnmenolemaaDoorLstP
import Derived.Test.YtmiafnmenolemaaDoorLstN
import Derived.Test.YtmiafnmenolemaaDoorOpen
import Derived.Test.YtmiafnmenolemaaDoorCard
import Derived.Test.YtmiafnmenolemaaDoorTie
import Derived.Test.YtmiafnmenolemaaDoorCards
import Derived.SevenTiedAt
import Derived.OpenVars
import Derived.ChangeOld
import Derived.Below
namespace Go.Proofs.YtmiafnmenolemaaDoor.lawLostBy
open Go Go.ChangeShapes Go.WideShapes Go.ChangeAt Go.RowKit

set_option maxRecDepth 100000 in
set_option maxHeartbeats 16000000 in
theorem walk (w : World) (sl : Option Addr) (zl cl : Nat) (l : Nat → Nat → Int) (hzl : zl ≤ 2 ^ 63 - 1) (hil : InA ksPlot w sl zl l) (hgl : WfS ksPlot zl l) (x : Int) (wx : (Lit.int .i64 x).wf = true) (sh : Option Addr) (zh ch : Nat) (h : Nat → Int) (hzh : zh ≤ 2 ^ 63 - 1) (hih : InJ w sh zh h) (hgh : Wf64 zh h) (A : Nat → Addr) (S0 : Sents w A) :
    Calls Tryd.prog 8 #[.slice sl zl cl, .int .i64 x, .slice sh zh ch] w fun e w' => e = .returned (.bool true) ∧ Below w.heap.size w w' := by
  have S : Hid (Sents w A) := Lib.hid S0
  clear S0
  obtain ⟨x1, x2⟩ := bounds_i64 wx
  have Hhil := Lib.hid hil
  have Hhgl := Lib.hid hgl
  have Hhih := Lib.hid hih
  have Hhgh := Lib.hid hgh
  clear hil hgl hih hgh
  by_cases hbh : 1048576 < zh
  · have th : decide (1048576 < (zh : Int)) = true := decide_eq_true (by omega)
    go_enter Tryd.func8, Tryd.ntmps8
    go_wp2_with (fail)
    go_ret
    exact ⟨rfl, Below.refl _ _⟩
  have qh : zh ≤ 2 ^ 40 := by omega
  have th : decide (1048576 < (zh : Int)) = false := decide_eq_false (by omega)
  by_cases hbl : 1048576 < zl
  · have tl : decide (1048576 < (zl : Int)) = true := decide_eq_true (by omega)
    go_enter Tryd.func8, Tryd.ntmps8
    go_wp2_with (first | (go_at_call 10; refine (szPlotS_any zl cl (by omega) sl _ (by omega) (by omega) (by omega) _).mono ?_; rintro e w9 ⟨rfl, rfl⟩; rw [if_pos (by omega)]))
    go_ret
    exact ⟨rfl, Below.refl _ _⟩
  have ql : zl ≤ 2 ^ 40 := by omega
  have tl : decide (1048576 < (zl : Int)) = false := decide_eq_false (by omega)
  have hrb0 : (lostN zl l x zh h) ≤ 2 ^ 40 := by have := lostN_le zl l x zh h; omega
  obtain ⟨rn0, hrn0⟩ : ∃ res, (lostN zl l x zh h) = res := ⟨_, rfl⟩
  rw [hrn0] at hrb0
  have HR0 := Lib.hid hrn0
  clear hrn0
  obtain ⟨rv1, hrv1⟩ : ∃ res, (planCode zl l x zh h) = res := ⟨_, rfl⟩
  have HR1 := Lib.hid hrv1
  clear hrv1
  go_enter Tryd.func8, Tryd.ntmps8
  have HB0 := Lib.hid (Below.refl w.heap.size w)
  go_upto_region 7 with (go_at_call 10; refine (szPlotS_any zl cl (by omega) sl _ (by omega) (by omega) (by omega) _).mono ?_; rintro e w9 ⟨rfl, rfl⟩; rw [if_neg (by omega)])
  have ok1_0 : True := trivial
  have ok1_1 : True := trivial
  have ok1_2 : True := trivial
  go_upto_region 8 with (first
    | (clear ok1_0; go_at_call 12; refine (Pto_any zl ql l sl cl _ (Hhil.out.later HB0.out)).mono ?_; rintro e W3 ⟨b5, rfl, i11, v12, u13, hb4⟩; have HB9 := Lib.hid (HB0.out.trans (hb4.mono HB0.out.size)); have z10 := hb4.size; have F6 := Lib.hid i11; have F7 := Lib.hid v12; have F8 := Lib.hid u13; clear hb4 i11 v12 u13 HB0)
    | (clear ok1_1; go_at_call 20; refine (Nto_any zh qh h sh ch _ (Hhih.out.later HB9.out)).mono ?_; rintro e W14 ⟨b16, rfl, i25, v26, u27, hb15⟩; have HB20 := Lib.hid (HB9.out.trans (hb15.mono HB9.out.size)); have z21 := hb15.size; have F22 := Lib.hid (F6.out.later hb15); have F23 := Lib.hid (F7.out.later hb15); have F24 := Lib.hid (F8.out.later hb15); have F17 := Lib.hid i25; have F18 := Lib.hid v26; have F19 := Lib.hid u27; clear hb15 i25 v26 u27 HB9 F6 F7 F8)
    | (clear ok1_2; go_at_call 25; refine (specLostBy zl ql l (fun i h => wfp_row Hhgl.out h) b5 zl x zh qh h b16 zh _ F22.out F17.out).mono ?_; rintro e W28 ⟨p32, c33, rfl, v34, u35, hb29⟩; rw [HR0.out, HR1.out]; rw [HR0.out] at v34 u35; have F36 := Lib.hid v34; have F37 := Lib.hid u35; have HB30 := Lib.hid (HB20.out.trans (hb29.mono HB20.out.size)); have z31 := hb29.size; clear hb29 v34 u35 HB20 F22 F23 F24 F17 F18 F19))
  go_upto_region 9 with (go_at_call 12; refine (Pto_any zl ql l sl cl _ (Hhil.out.later HB30.out)).mono ?_; rintro e W38 ⟨b40, rfl, i48, v49, u50, hb39⟩; have HB44 := Lib.hid (HB30.out.trans (hb39.mono HB30.out.size)); have z45 := hb39.size; have F46 := Lib.hid (F36.out.later hb39); have F47 := Lib.hid (F37.out.later hb39); have F41 := Lib.hid i48; have F42 := Lib.hid v49; have F43 := Lib.hid u50; clear hb39 i48 v49 u50 HB30 F36 F37)
  go_upto_region 10 with (go_at_call 20; refine (Nto_any zh qh h sh ch _ (Hhih.out.later HB44.out)).mono ?_; rintro e W51 ⟨b53, rfl, i64, v65, u66, hb52⟩; have HB57 := Lib.hid (HB44.out.trans (hb52.mono HB44.out.size)); have z58 := hb52.size; have F59 := Lib.hid (F46.out.later hb52); have F60 := Lib.hid (F47.out.later hb52); have F61 := Lib.hid (F41.out.later hb52); have F62 := Lib.hid (F42.out.later hb52); have F63 := Lib.hid (F43.out.later hb52); have F54 := Lib.hid i64; have F55 := Lib.hid v65; have F56 := Lib.hid u66; clear hb52 i64 v65 u66 HB44 F46 F47 F41 F42 F43)
  go_upto_region 11 with (go_at_call 26; refine (implLostBy zl ql l (fun i h => wfp_row Hhgl.out h) b40 zl x zh qh h b53 zh A _ F61.out F54.out (S.out.later HB57.out)).mono ?_; rintro e W67 ⟨p79, c80, rfl, v81, u82, hb68⟩; rw [HR0.out, HR1.out]; rw [HR0.out] at v81 u82; have F83 := Lib.hid v81; have F84 := Lib.hid u82; have HB69 := Lib.hid (HB57.out.trans (hb68.mono HB57.out.size)); have z70 := hb68.size; have F71 := Lib.hid (F59.out.later hb68); have F72 := Lib.hid (F60.out.later hb68); have F73 := Lib.hid (F61.out.later hb68); have F74 := Lib.hid (F62.out.later hb68); have F75 := Lib.hid (F63.out.later hb68); have F76 := Lib.hid (F54.out.later hb68); have F77 := Lib.hid (F55.out.later hb68); have F78 := Lib.hid (F56.out.later hb68); clear hb68 v81 u82 HB57 F59 F60 F61 F62 F63 F54 F55 F56)
  go_upto_region 13 with (go_at_call 22; refine (Neq_J _ hrb0 _ _ _ _ _ _ F83.out.j F71.out.j).mono ?_; rintro e W85 ⟨rfl, hb86⟩; have HB87 := Lib.hid (HB69.out.trans (hb86.mono HB69.out.size)); have z88 := hb86.size; have F89 := Lib.hid (F71.out.later hb86); have F90 := Lib.hid (F72.out.later hb86); have F91 := Lib.hid (F73.out.later hb86); have F92 := Lib.hid (F74.out.later hb86); have F93 := Lib.hid (F75.out.later hb86); have F94 := Lib.hid (F76.out.later hb86); have F95 := Lib.hid (F77.out.later hb86); have F96 := Lib.hid (F78.out.later hb86); have F97 := Lib.hid (F83.out.later hb86); have F98 := Lib.hid (F84.out.later hb86); clear hb86 HB69 F71 F72 F73 F74 F75 F76 F77 F78 F83 F84)
  have ok6_0 : True := trivial
  have ok6_1 : True := trivial
  go_upto_region 15 with (first
    | (clear ok6_0; go_at_call 12; refine (Pto_any zl ql l sl cl _ (Hhil.out.later HB87.out)).mono ?_; rintro e W99 ⟨b101, rfl, i117, v118, u119, hb100⟩; have HB105 := Lib.hid (HB87.out.trans (hb100.mono HB87.out.size)); have z106 := hb100.size; have F107 := Lib.hid (F89.out.later hb100); have F108 := Lib.hid (F90.out.later hb100); have F109 := Lib.hid (F91.out.later hb100); have F110 := Lib.hid (F92.out.later hb100); have F111 := Lib.hid (F93.out.later hb100); have F112 := Lib.hid (F94.out.later hb100); have F113 := Lib.hid (F95.out.later hb100); have F114 := Lib.hid (F96.out.later hb100); have F115 := Lib.hid (F97.out.later hb100); have F116 := Lib.hid (F98.out.later hb100); have F102 := Lib.hid i117; have F103 := Lib.hid v118; have F104 := Lib.hid u119; clear hb100 i117 v118 u119 HB87 F89 F90 F91 F92 F93 F94 F95 F96 F97 F98)
    | (clear ok6_1; go_at_call 14; refine (Peq_J _ ql _ _ _ _ _ _ F110.out.j F103.out.j).mono ?_; rintro e W120 ⟨rfl, hb121⟩; have HB122 := Lib.hid (HB105.out.trans (hb121.mono HB105.out.size)); have z123 := hb121.size; have F124 := Lib.hid (F107.out.later hb121); have F125 := Lib.hid (F108.out.later hb121); have F126 := Lib.hid (F109.out.later hb121); have F127 := Lib.hid (F110.out.later hb121); have F128 := Lib.hid (F111.out.later hb121); have F129 := Lib.hid (F112.out.later hb121); have F130 := Lib.hid (F113.out.later hb121); have F131 := Lib.hid (F114.out.later hb121); have F132 := Lib.hid (F115.out.later hb121); have F133 := Lib.hid (F116.out.later hb121); clear hb121 HB105 F107 F108 F109 F110 F111 F112 F113 F114 F115 F116 F102 F103 F104))
  have ok7_0 : True := trivial
  have ok7_1 : True := trivial
  go_upto_region 18 with (first
    | (clear ok7_0; go_at_call 20; refine (Nto_any zh qh h sh ch _ (Hhih.out.later HB122.out)).mono ?_; rintro e W134 ⟨b136, rfl, i152, v153, u154, hb135⟩; have HB140 := Lib.hid (HB122.out.trans (hb135.mono HB122.out.size)); have z141 := hb135.size; have F142 := Lib.hid (F124.out.later hb135); have F143 := Lib.hid (F125.out.later hb135); have F144 := Lib.hid (F126.out.later hb135); have F145 := Lib.hid (F127.out.later hb135); have F146 := Lib.hid (F128.out.later hb135); have F147 := Lib.hid (F129.out.later hb135); have F148 := Lib.hid (F130.out.later hb135); have F149 := Lib.hid (F131.out.later hb135); have F150 := Lib.hid (F132.out.later hb135); have F151 := Lib.hid (F133.out.later hb135); have F137 := Lib.hid i152; have F138 := Lib.hid v153; have F139 := Lib.hid u154; clear hb135 i152 v153 u154 HB122 F124 F125 F126 F127 F128 F129 F130 F131 F132 F133)
    | (clear ok7_1; go_at_call 22; refine (Neq_J _ qh _ _ _ _ _ _ F148.out.j F138.out.j).mono ?_; rintro e W155 ⟨rfl, hb156⟩; have HB157 := Lib.hid (HB140.out.trans (hb156.mono HB140.out.size)); have z158 := hb156.size; have F159 := Lib.hid (F142.out.later hb156); have F160 := Lib.hid (F143.out.later hb156); have F161 := Lib.hid (F144.out.later hb156); have F162 := Lib.hid (F145.out.later hb156); have F163 := Lib.hid (F146.out.later hb156); have F164 := Lib.hid (F147.out.later hb156); have F165 := Lib.hid (F148.out.later hb156); have F166 := Lib.hid (F149.out.later hb156); have F167 := Lib.hid (F150.out.later hb156); have F168 := Lib.hid (F151.out.later hb156); clear hb156 HB140 F142 F143 F144 F145 F146 F147 F148 F149 F150 F151 F137 F138 F139))
  go_upto_region 19 with (go_at_call 27; refine (Pmark_any _ ql (1) (by omega) _ _ _ F163.out).mono ?_; rintro e W169 ⟨rfl, hm171, v172⟩; have HB174 := Lib.hid (PBelow.marked HB157.out hm171 (by omega) (by omega)); have z175 := hm171.size; have F176 := Lib.hid (F159.out.marked hm171 (by omega)); have F177 := Lib.hid (F160.out.marked hm171 (by omega)); have F178 := Lib.hid (F165.out.marked hm171 (by omega)); have F179 := Lib.hid (F166.out.marked hm171 (by omega)); have F180 := Lib.hid (F167.out.marked hm171 (by omega)); have F181 := Lib.hid (F168.out.marked hm171 (by omega)); have F173 := Lib.hid v172; clear hm171 v172 HB157 F159 F160 F161 F162 F163 F164 F165 F166 F167 F168)
  go_upto_region 20 with (go_at_call 28; refine (Nmark_any _ qh (1 + 4 * zl) (by omega) _ _ _ F179.out).mono ?_; rintro e W182 ⟨rfl, hm184, v185⟩; have HB187 := Lib.hid (NBelow.marked HB174.out hm184 (by omega) (by omega)); have z188 := hm184.size; have F189 := Lib.hid (F176.out.marked hm184 (by omega)); have F190 := Lib.hid (F177.out.marked hm184 (by omega)); have F191 := Lib.hid (F180.out.marked hm184 (by omega)); have F192 := Lib.hid (F181.out.marked hm184 (by omega)); have F186 := Lib.hid v185; clear hm184 v185 HB174 F176 F177 F178 F179 F180 F181 F173)
  go_upto_region 23 with (go_at_call 22; refine (Neq_J _ hrb0 _ _ _ _ _ _ F191.out.j F189.out.j).mono ?_; rintro e W193 ⟨rfl, hb194⟩; have HB195 := Lib.hid (HB187.out.trans (hb194.mono HB187.out.size)); have z196 := hb194.size; have F197 := Lib.hid (F189.out.later hb194); have F198 := Lib.hid (F190.out.later hb194); have F199 := Lib.hid (F191.out.later hb194); have F200 := Lib.hid (F192.out.later hb194); clear hb194 HB187 F189 F190 F191 F192 F186)
  go_upto_region 25 with (go_at_call 28; refine (Nmark_any _ hrb0 (1) (by omega) _ _ _ F200.out).mono ?_; rintro e W201 ⟨rfl, hm203, v204⟩; have HB206 := Lib.hid (NBelow.marked HB195.out hm203 (by omega) (by omega)); have z207 := hm203.size; have F208 := Lib.hid (F197.out.marked hm203 (by omega)); have F209 := Lib.hid (F198.out.marked hm203 (by omega)); have F205 := Lib.hid v204; clear hm203 v204 HB195 F197 F198 F199 F200)
  go_upto_region 30 with (go_at_call 29; refine (Nheld_any _ hrb0 (1) (by omega) _ _ _ F205.out).mono ?_; rintro e W210 ⟨rfl, hb211⟩; have HB212 := Lib.hid (HB206.out.trans (hb211.mono HB206.out.size)); have z213 := hb211.size; have F214 := Lib.hid (F208.out.later hb211); have F215 := Lib.hid (F209.out.later hb211); have F216 := Lib.hid (F205.out.later hb211); clear hb211 HB206 F208 F209 F205)
  have ok13_0 : True := trivial
  have ok13_1 : True := trivial
  have ok13_2 : True := trivial
  go_upto_region 31 with (first
    | (clear ok13_0; go_at_call 12; refine (Pto_any zl ql l sl cl _ (Hhil.out.later HB212.out)).mono ?_; rintro e W217 ⟨b219, rfl, i228, v229, u230, hb218⟩; have HB223 := Lib.hid (HB212.out.trans (hb218.mono HB212.out.size)); have z224 := hb218.size; have F225 := Lib.hid (F214.out.later hb218); have F226 := Lib.hid (F215.out.later hb218); have F227 := Lib.hid (F216.out.later hb218); have F220 := Lib.hid i228; have F221 := Lib.hid v229; have F222 := Lib.hid u230; clear hb218 i228 v229 u230 HB212 F214 F215 F216)
    | (clear ok13_1; go_at_call 20; refine (Nto_any zh qh h sh ch _ (Hhih.out.later HB223.out)).mono ?_; rintro e W231 ⟨b233, rfl, i245, v246, u247, hb232⟩; have HB237 := Lib.hid (HB223.out.trans (hb232.mono HB223.out.size)); have z238 := hb232.size; have F239 := Lib.hid (F225.out.later hb232); have F240 := Lib.hid (F226.out.later hb232); have F241 := Lib.hid (F227.out.later hb232); have F242 := Lib.hid (F220.out.later hb232); have F243 := Lib.hid (F221.out.later hb232); have F244 := Lib.hid (F222.out.later hb232); have F234 := Lib.hid i245; have F235 := Lib.hid v246; have F236 := Lib.hid u247; clear hb232 i245 v246 u247 HB223 F225 F226 F227 F220 F221 F222)
    | (clear ok13_2; go_at_call 26; refine (implLostBy zl ql l (fun i h => wfp_row Hhgl.out h) b219 zl x zh qh h b233 zh A _ F242.out F234.out (S.out.later HB237.out)).mono ?_; rintro e W248 ⟨p255, c256, rfl, v257, u258, hb249⟩; rw [HR0.out, HR1.out]; rw [HR0.out] at v257 u258; have F259 := Lib.hid v257; have F260 := Lib.hid u258; have HB250 := Lib.hid (HB237.out.trans (hb249.mono HB237.out.size)); have z251 := hb249.size; have F252 := Lib.hid (F239.out.later hb249); have F253 := Lib.hid (F240.out.later hb249); have F254 := Lib.hid (F241.out.later hb249); clear hb249 v257 u258 HB237 F239 F240 F241 F242 F243 F244 F234 F235 F236))
  go_upto_region 34 with (go_at_call 22; refine (Neq_J _ hrb0 _ _ _ _ _ _ F259.out.j F252.out.j).mono ?_; rintro e W261 ⟨rfl, hb262⟩; have HB263 := Lib.hid (HB250.out.trans (hb262.mono HB250.out.size)); have z264 := hb262.size; have F265 := Lib.hid (F254.out.later hb262); clear hb262 HB250 F252 F253 F254 F259 F260)
  go_wp2_with (go_at_call 29; refine (Nheld_any _ hrb0 (1) (by omega) _ _ _ F265.out).mono ?_; rintro e W266 ⟨rfl, hb267⟩; have HB268 := Lib.hid (HB263.out.trans (hb267.mono HB263.out.size)); have z269 := hb267.size; clear hb267 HB263 F265)
  go_ret
  exact ⟨rfl, HB268.out⟩
theorem trodVars_len {H : Type} {enc : TypeId × Value → H} {P : Program} {w : World} {sp : Nat → Bool} : ∀ {ns : List String} {gs : List (DataW H)} {ps : List MemPlace}, DataW.TrodVars enc P w sp ns gs ps → gs.length = ns.length
  | [], [], _, _ => rfl
  | [], _ :: _, _, h => h.elim
  | _ :: _, [], _, h => h.elim
  | _ :: _, _ :: _, _, ⟨_, _, _, _, _, _, _, _, _, _, h, _⟩ => congrArg (· + 1) (trodVars_len h)
theorem door_met (os : Os) (args : Array Value) : laidMetH Tryd.prog Rows.fnExactLostByRow.laid ((World.doorLaid Tryd.prog 400 os).forCall (fun _ _ => 0) ⟨#[], args, []⟩).memory :=
  laidMetH_of_parts3 (fuel := 8) (laidMet_of_run' 8 (by kernel_rfl) (by kernel_rfl)) (by kernel_rfl) (by kernel_rfl)
set_option maxRecDepth 100000 in
theorem lifted (os : Os) (started : os.Started) (H : Type) (enc : TypeId × Value → H) :
    ReturnsInHanded {} Tryd.checked os 8 .any (fun w args => (Rows.fnExactLostBySpec.pre enc Tryd.prog Tryd.f8 Rows.fnExactLostByRow.domain false w args ∧ laidMetH Tryd.prog Rows.fnExactLostByRow.laid w) ∧ sizedMet enc Tryd.prog Tryd.f8 (OpenSpec.ofChange Rows.fnExactLostBySpec) false w args) (Rows.fnExactLostBySpec.post enc Tryd.prog Tryd.f8 false true false false) := by
  refine returnsInHanded_of_change_and (C := Tryd.checked) (X := fun w _ => laidMetH Tryd.prog Rows.fnExactLostByRow.laid w) (fun _ _ _ hh h => h.of_heap hh) own started (by kernel_rfl) Tryd.func8
    (ChangeSpec.witness_shaped (enc := enc) (C := Tryd.checked) (os := os) (X := fun w _ => laidMetH Tryd.prog Rows.fnExactLostByRow.laid w) false (World.doorLaid Tryd.prog 400 os) #[.slice none 0 0, .int .i64 0, .slice none 0 0] 8 rfl (World.shaped_of_RefB (by kernel_rfl) (by kernel_rfl)) (by kernel_rfl) (by kernel_rfl) (by kernel_rfl) (door_met os _)) ?_
  intro W base args ds gs before hval0 hW _ _ hL _
  have hval : ∀ (j : Nat) t v, Tryd.f8.params[j]? = some t → args[j]? = some v → Value.okWide Tryd.prog W .any base t v := hval0
  have hW' := hW
  obtain ⟨p, q, hA0, hV0, rfl, hfz, hnd⟩ := hW
  have hA : DataW.TrodAll enc Tryd.prog W 0 (fun _ => true) true Tryd.f8.params.toList args.toList ds p := hA0
  have hV : DataW.TrodVars enc Tryd.prog W (fun _ => true) Rows.fnExactLostBySpec.vars gs q := hV0
  rw [Tryd.params8] at hA hval
  obtain ⟨v0, vs0, d0, ds0, p0, q0, hargs, rfl, rfl, h0, r0⟩ := trodAll_cons hA
  obtain ⟨v1, vs1, d1, ds1, p1, q1, rfl, rfl, rfl, h1, r1⟩ := trodAll_cons r0
  obtain ⟨v2, vs2, d2, ds2, p2, q2, rfl, rfl, rfl, h2, r2⟩ := trodAll_cons r1
  obtain ⟨rfl, rfl, rfl⟩ := trodAll_nil r2
  obtain rfl : args = #[v0, v1, v2] := by cases args; simp_all
  rw [MakeChecks.laidMetH_plain _ _ _ (by kernel_rfl)] at hL
  obtain ⟨A, SV⟩ := sentVars (rest := []) hL
  have hlen := trodVars_len hV
  obtain ⟨gv1, gv2, gv3, gv4, gv5, gv6, gv7, gv8, rfl⟩ : ∃ gv1 gv2 gv3 gv4 gv5 gv6 gv7 gv8, gs = [gv1, gv2, gv3, gv4, gv5, gv6, gv7, gv8] := by
    match gs, hlen with
    | [gv1, gv2, gv3, gv4, gv5, gv6, gv7, gv8], _ => exact ⟨gv1, gv2, gv3, gv4, gv5, gv6, gv7, gv8, rfl⟩
  have k0 := h0
  have lt0 : ∀ x ∈ p0, x.block < W.heap.size := by obtain ⟨m, hm⟩ := k0; exact DataW.trod_lt m _ _ _ hm
  have k1 := h1
  have lt1 : ∀ x ∈ p1, x.block < W.heap.size := by obtain ⟨m, hm⟩ := k1; exact DataW.trod_lt m _ _ _ hm
  have k2 := h2
  have lt2 : ∀ x ∈ p2, x.block < W.heap.size := by obtain ⟨m, hm⟩ := k2; exact DataW.trod_lt m _ _ _ hm
  obtain ⟨s0, z0, c0, G0, rfl, hz0, hi0, hg0⟩ := open_ints (ks := ksPlot) (fs := Tryd.prog.fieldsOf 50) Tryd.underlying22 (by kernel_rfl) (by decide) (by kernel_rfl) (by kernel_rfl) (hval 0 22 v0 rfl rfl) h0
  obtain ⟨n1, rfl, rfl, rfl, wn1⟩ := open_int Tryd.underlying2 (hval 1 2 v1 rfl rfl) h1
  obtain ⟨s2, z2, c2, g2, rfl, hz2, hi2, hg2⟩ := open_nums Tryd.underlying34 Tryd.underlying2 (by kernel_rfl) (hval 2 34 v2 rfl rfl) h2
  clear hA0 hval0 hV0
  refine (walk W s0 z0 c0 G0 (by simpa [maxLen] using hz0) hi0 hg0 n1 wn1 s2 z2 c2 g2 (by simpa [maxLen] using hz2) hi2 hg2 A SV.sents).mono fun e W' ⟨he, bel⟩ => ?_
  subst he
  exact ⟨_, rfl, _, _, _, [], _, _, hW', trodAll_mk1 (shut_bool Tryd.underlying4 _), (trodAll_cons_mk (Below.trod laidOut (by kernel_rfl) (of_decide_eq_true (by kernel_rfl)) k0 bel lt0) (trodAll_cons_mk (Below.trod laidOut (by kernel_rfl) (of_decide_eq_true (by kernel_rfl)) k1 bel lt1) (trodAll_cons_mk (Below.trod laidOut (by kernel_rfl) (of_decide_eq_true (by kernel_rfl)) k2 bel lt2) trodAll_mk0))), Below.trodVars laidOut bel (by kernel_rfl) hV, bel.frame _, fun h => by cases h⟩

theorem over : Rows.fnExactLostByRow.holds Tryd.pinned (OpenSpec.ofChange Rows.fnExactLostBySpec) :=
  OpenClaim.holds_of_wide 8 Tryd.f8 rfl rfl rfl rfl rfl rfl rfl ⟨rfl, rfl, rfl, rfl, rfl⟩ rfl rfl rfl rfl rfl (by kernel_rfl) Tryd.func8 (by kernel_rfl)
    (of_decide_eq_true (by kernel_rfl)) (by unfold Func.isWrapper; first | (rw [if_pos (by decide +kernel)]; kernel_rfl) | (rw [if_neg (by decide +kernel)]; exact ⟨rfl, rfl⟩))
    (fun os started H enc _ => lifted os started H enc)
theorem proved : Rows.FnExactLostByCardSaid :=
  Claim7.holds_tied_plain_at .later [] [.sentinel, .sentinel, .sentinel, .sentinel, .sentinel, .sentinel, .sentinel, .sentinel] true (true, "7af663af61bb54c2459743068fed09cb735603bb6d07a9a5a27d147f09b332ed") true
    over (fun _ h => by cases h) (by kernel_rfl) (fun _ h => by cases h) fnExactLostBy_row_tie rfl ⟨rfl, rfl⟩ (by kernel_rfl) rfl
    (fun f fn hf hfn => by
      obtain rfl : f = 8 := Option.some.inj ((show Tryd.prog.funcNamed "loop.example/g01338/laws.FnExactLostBy" = some 8 by kernel_rfl).symm.trans hf) |>.symm
      obtain rfl : fn = Tryd.f8 := (Option.some.inj (Tryd.func8.symm.trans hfn)).symm
      exact ⟨by kernel_rfl, fun j t ht => by
        rw [Tryd.params8] at ht
        have hm : t ∈ [22, 2, 34] := by simpa using Array.mem_of_getElem? ht
        have hall : ([22, 2, 34].all fun u => !Tryd.prog.wantsStandIn u) = true := by kernel_rfl
        exact (show Tryd.prog.wantsStandIn t = false by simpa using List.all_eq_true.1 hall t hm)⟩)
    (by kernel_rfl)
#print axioms proved
end Go.Proofs.YtmiafnmenolemaaDoor.lawLostBy
