/-
  EatenBy: for all arguments the program answers as the model does, and its memory is its own: no condition beyond the listed sentinels, which the card ties to the program's text.
-/
import Derived.Test.YtaioflkonpommaaDoorEby
import Derived.Test.YtaioflkonpommaaDoorLstF
import Derived.Test.YtaioflkonpommaaDoorLstV
import Derived.Test.YtaioflkonpommaaDoorLstN
import Derived.Test.YtaioflkonpommaaDoorLawh
import Derived.Test.YtaioflkonpommaaDoorCoreB
import Derived.Test.YtaioflkonpommaaDoorCard
import Derived.Test.YtaioflkonpommaaDoorTie
import Derived.Test.YtaioflkonpommaaDoorCards
import Derived.Test.YtaioflkonpommaaDoorTab
import Derived.SevenTiedAt
import Derived.OpenVars
import Derived.ChangeOld
import Derived.Below
namespace Go.Proofs.YtaioflkonpommaaDoor.lawEatenBy
open Go Go.ChangeShapes Go.WideShapes Go.ChangeAt Go.RowKit

set_option maxRecDepth 100000 in
set_option maxHeartbeats 16000000 in
theorem walk (w : World) (f : Fd) (hff : f.Wf) (sl : Option Addr) (zl cl : Nat) (l : Nat → Nat → Int) (hzl : zl ≤ 2 ^ 63 - 1) (hil : InA ksFlock w sl zl l) (hgl : WfS ksFlock zl l) (sh : Option Addr) (zh ch : Nat) (h : Nat → Nat → Int) (hzh : zh ≤ 2 ^ 63 - 1) (hih : InA ksVisit w sh zh h) (hgh : WfS ksVisit zh h) (A : Nat → Addr) (T0 : TabAt w) (S0 : Sents w A) :
    Calls Tryd.prog 7 #[.agg (fcells f), .slice sl zl cl, .slice sh zh ch] w fun e w' => e = .returned (.bool true) ∧ Below w.heap.size w w' := by
  have S : Hid (Sents w A) := Lib.hid S0
  clear S0
  have T : Hid (TabAt w) := Lib.hid T0
  clear T0
  have Hhil := Lib.hid hil
  have Hhgl := Lib.hid hgl
  have Hhih := Lib.hid hih
  have Hhgh := Lib.hid hgh
  clear hil hgl hih hgh
  by_cases hbl : 1048576 < zl
  · have tl : decide (1048576 < (zl : Int)) = true := decide_eq_true (by omega)
    go_enter Tryd.func7, Tryd.ntmps7
    go_upto_region 1 with (fail)
    obtain ⟨W0, hW, M0⟩ := open1 w (fcells f) 27
    rw [hW]; clear hW
    go_wp2_with (first | (go_at_call 21; refine (szFlockS_any zl cl (by omega) sl _ (by omega) (by omega) (by omega) _).mono ?_; rintro e w9 ⟨rfl, rfl⟩; rw [if_pos (by omega)]))
    go_ret
    exact ⟨rfl, M0.below⟩
  have ql : zl ≤ 2 ^ 40 := by omega
  have tl : decide (1048576 < (zl : Int)) = false := decide_eq_false (by omega)
  by_cases hbh : 1048576 < zl + zh
  · have th : decide (1048576 - (zl : Int) < (zh : Int)) = true := decide_eq_true (by omega)
    go_enter Tryd.func7, Tryd.ntmps7
    go_upto_region 1 with (fail)
    obtain ⟨W0, hW, M0⟩ := open1 w (fcells f) 27
    rw [hW]; clear hW
    go_wp2_with (first | (go_at_call 21; refine (szFlockS_any zl cl (by omega) sl _ (by omega) (by omega) (by omega) _).mono ?_; rintro e w9 ⟨rfl, rfl⟩; rw [if_neg (by omega)]) | (go_at_call 32; refine (szVisitS_any zh ch (by omega) sh _ (by omega) (by omega) (by omega) _).mono ?_; rintro e w9 ⟨rfl, rfl⟩; rw [if_pos (by omega)]))
    go_ret
    exact ⟨rfl, M0.below⟩
  have qh : zh ≤ 2 ^ 40 := by omega
  have th : decide (1048576 - (zl : Int) < (zh : Int)) = false := decide_eq_false (by omega)
  have hrb0 : (ebN f zl l zh h) ≤ 2 ^ 40 := ebN_le f zl l zh h ql
  obtain ⟨rn0, hrn0⟩ : ∃ res, (ebN f zl l zh h) = res := ⟨_, rfl⟩
  rw [hrn0] at hrb0
  have HR0 := Lib.hid hrn0
  clear hrn0
  obtain ⟨rv1, hrv1⟩ : ∃ res, (ebCode f zl l zh h) = res := ⟨_, rfl⟩
  have HR1 := Lib.hid hrv1
  clear hrv1
  go_enter Tryd.func7, Tryd.ntmps7
  go_upto_region 1 with (fail)
  obtain ⟨W0, hW, M0⟩ := open1 w (fcells f) 27
  rw [hW]; clear hW
  have HM0 := Lib.hid M0.before
  have z0 : w.heap.size ≤ W0.heap.size := M0.below.size
  go_upto_region 5 with (go_at_call 21; refine (szFlockS_any zl cl (by omega) sl _ (by omega) (by omega) (by omega) _).mono ?_; rintro e w9 ⟨rfl, rfl⟩; rw [if_neg (by omega)])
  go_upto_region 8 with (go_at_call 32; refine (szVisitS_any zh ch (by omega) sh _ (by omega) (by omega) (by omega) _).mono ?_; rintro e w9 ⟨rfl, rfl⟩; rw [if_neg (by omega)])
  have ok2_0 : True := trivial
  have ok2_1 : True := trivial
  have ok2_2 : True := trivial
  have ok2_3 : True := trivial
  have ok2_4 : True := trivial
  go_upto_region 9 with (first
    | (clear ok2_0; refine wpList_load_part rfl 27 _ rfl (w.heap.size) 0 rfl (fcells f) _ (M0.at 0 rfl).whole Tryd.underlying27 rfl (by rw [fcells_size]; exact sizeFl) ?_)
    | (clear ok2_1; go_at_call 10; refine (toField _ _).mono ?_; rintro e W5 ⟨rfl, hb6⟩; have M7 := M0.call hb6; have z8 := hb6.size; clear hb6 M0)
    | (clear ok2_2; go_at_call 23; refine (Fto_any zl ql l sl cl _ (Hhil.out.later M7.below)).mono ?_; rintro e W9 ⟨b11, rfl, i17, v18, u19, hb10⟩; have M15 := M7.call hb10; have z16 := hb10.size; have F12 := Lib.hid i17; have F13 := Lib.hid v18; have F14 := Lib.hid u19; clear hb10 i17 v18 u19 M7)
    | (clear ok2_3; go_at_call 34; refine (Vto_any zh qh h sh ch _ (Hhih.out.later M15.below)).mono ?_; rintro e W20 ⟨b22, rfl, i31, v32, u33, hb21⟩; have M26 := M15.call hb21; have z27 := hb21.size; have F28 := Lib.hid (F12.out.later hb21); have F29 := Lib.hid (F13.out.later hb21); have F30 := Lib.hid (F14.out.later hb21); have F23 := Lib.hid i31; have F24 := Lib.hid v32; have F25 := Lib.hid u33; clear hb21 i31 v32 u33 M15 F12 F13 F14)
    | (clear ok2_4; go_at_call 33; refine (specEatenBy f hff zl ql l Hhgl.out b11 zl zh qh h Hhgh.out b22 zh _ F28.out F23.out).mono ?_; rintro e W34 ⟨p38, c39, rfl, v40, u41, hb35⟩; rw [HR0.out, HR1.out]; rw [HR0.out] at v40 u41; have F42 := Lib.hid v40; have F43 := Lib.hid u41; have M36 := M26.call hb35; have z37 := hb35.size; clear hb35 v40 u41 M26 F28 F29 F30 F23 F24 F25))
  go_upto_region 10 with (go_at_call 23; refine (Fto_any zl ql l sl cl _ (Hhil.out.later M36.below)).mono ?_; rintro e W44 ⟨b46, rfl, i54, v55, u56, hb45⟩; have M50 := M36.call hb45; have z51 := hb45.size; have F52 := Lib.hid (F42.out.later hb45); have F53 := Lib.hid (F43.out.later hb45); have F47 := Lib.hid i54; have F48 := Lib.hid v55; have F49 := Lib.hid u56; clear hb45 i54 v55 u56 M36 F42 F43)
  go_upto_region 11 with (go_at_call 34; refine (Vto_any zh qh h sh ch _ (Hhih.out.later M50.below)).mono ?_; rintro e W57 ⟨b59, rfl, i70, v71, u72, hb58⟩; have M63 := M50.call hb58; have z64 := hb58.size; have F65 := Lib.hid (F52.out.later hb58); have F66 := Lib.hid (F53.out.later hb58); have F67 := Lib.hid (F47.out.later hb58); have F68 := Lib.hid (F48.out.later hb58); have F69 := Lib.hid (F49.out.later hb58); have F60 := Lib.hid i70; have F61 := Lib.hid v71; have F62 := Lib.hid u72; clear hb58 i70 v71 u72 M50 F52 F53 F47 F48 F49)
  have ok5_0 : True := trivial
  have ok5_1 : True := trivial
  have ok5_2 : True := trivial
  go_upto_region 12 with (first
    | (clear ok5_0; refine wpList_load_part rfl 27 _ rfl (w.heap.size) 0 rfl (fcells f) _ (M63.at 0 rfl).whole Tryd.underlying27 rfl (by rw [fcells_size]; exact sizeFl) ?_)
    | (clear ok5_1; go_at_call 10; refine (toField _ _).mono ?_; rintro e W73 ⟨rfl, hb74⟩; have M75 := M63.call hb74; have z76 := hb74.size; have F77 := Lib.hid (F65.out.later hb74); have F78 := Lib.hid (F66.out.later hb74); have F79 := Lib.hid (F67.out.later hb74); have F80 := Lib.hid (F68.out.later hb74); have F81 := Lib.hid (F69.out.later hb74); have F82 := Lib.hid (F60.out.later hb74); have F83 := Lib.hid (F61.out.later hb74); have F84 := Lib.hid (F62.out.later hb74); clear hb74 M63 F65 F66 F67 F68 F69 F60 F61 F62)
    | (clear ok5_2; go_at_call 35; refine (implEatenBy f hff zl ql l Hhgl.out b46 zl zh qh h Hhgh.out b59 zh A _ (T.out.later M75.below) (S.out.later M75.below) F79.out F82.out).mono ?_; rintro e W85 ⟨p97, c98, rfl, v99, u100, hb86⟩; rw [HR0.out, HR1.out]; rw [HR0.out] at v99 u100; have F101 := Lib.hid v99; have F102 := Lib.hid u100; have M87 := M75.call hb86; have z88 := hb86.size; have F89 := Lib.hid (F77.out.later hb86); have F90 := Lib.hid (F78.out.later hb86); have F91 := Lib.hid (F79.out.later hb86); have F92 := Lib.hid (F80.out.later hb86); have F93 := Lib.hid (F81.out.later hb86); have F94 := Lib.hid (F82.out.later hb86); have F95 := Lib.hid (F83.out.later hb86); have F96 := Lib.hid (F84.out.later hb86); clear hb86 v99 u100 M75 F77 F78 F79 F80 F81 F82 F83 F84))
  go_upto_region 14 with (go_at_call 29; refine (Neq_J _ hrb0 _ _ _ _ _ _ F101.out.j F89.out.j).mono ?_; rintro e W103 ⟨rfl, hb104⟩; have M105 := M87.call hb104; have z106 := hb104.size; have F107 := Lib.hid (F89.out.later hb104); have F108 := Lib.hid (F90.out.later hb104); have F109 := Lib.hid (F91.out.later hb104); have F110 := Lib.hid (F92.out.later hb104); have F111 := Lib.hid (F93.out.later hb104); have F112 := Lib.hid (F94.out.later hb104); have F113 := Lib.hid (F95.out.later hb104); have F114 := Lib.hid (F96.out.later hb104); have F115 := Lib.hid (F101.out.later hb104); have F116 := Lib.hid (F102.out.later hb104); clear hb104 M87 F89 F90 F91 F92 F93 F94 F95 F96 F101 F102)
  have ok7_0 : True := trivial
  have ok7_1 : True := trivial
  go_upto_region 16 with (first
    | (clear ok7_0; go_at_call 23; refine (Fto_any zl ql l sl cl _ (Hhil.out.later M105.below)).mono ?_; rintro e W117 ⟨b119, rfl, i135, v136, u137, hb118⟩; have M123 := M105.call hb118; have z124 := hb118.size; have F125 := Lib.hid (F107.out.later hb118); have F126 := Lib.hid (F108.out.later hb118); have F127 := Lib.hid (F109.out.later hb118); have F128 := Lib.hid (F110.out.later hb118); have F129 := Lib.hid (F111.out.later hb118); have F130 := Lib.hid (F112.out.later hb118); have F131 := Lib.hid (F113.out.later hb118); have F132 := Lib.hid (F114.out.later hb118); have F133 := Lib.hid (F115.out.later hb118); have F134 := Lib.hid (F116.out.later hb118); have F120 := Lib.hid i135; have F121 := Lib.hid v136; have F122 := Lib.hid u137; clear hb118 i135 v136 u137 M105 F107 F108 F109 F110 F111 F112 F113 F114 F115 F116)
    | (clear ok7_1; go_at_call 25; refine (Feq_J _ ql _ _ _ _ _ _ F128.out.j F121.out.j).mono ?_; rintro e W138 ⟨rfl, hb139⟩; have M140 := M123.call hb139; have z141 := hb139.size; have F142 := Lib.hid (F125.out.later hb139); have F143 := Lib.hid (F126.out.later hb139); have F144 := Lib.hid (F127.out.later hb139); have F145 := Lib.hid (F128.out.later hb139); have F146 := Lib.hid (F129.out.later hb139); have F147 := Lib.hid (F130.out.later hb139); have F148 := Lib.hid (F131.out.later hb139); have F149 := Lib.hid (F132.out.later hb139); have F150 := Lib.hid (F133.out.later hb139); have F151 := Lib.hid (F134.out.later hb139); clear hb139 M123 F125 F126 F127 F128 F129 F130 F131 F132 F133 F134 F120 F121 F122))
  have ok8_0 : True := trivial
  have ok8_1 : True := trivial
  go_upto_region 19 with (first
    | (clear ok8_0; go_at_call 34; refine (Vto_any zh qh h sh ch _ (Hhih.out.later M140.below)).mono ?_; rintro e W152 ⟨b154, rfl, i170, v171, u172, hb153⟩; have M158 := M140.call hb153; have z159 := hb153.size; have F160 := Lib.hid (F142.out.later hb153); have F161 := Lib.hid (F143.out.later hb153); have F162 := Lib.hid (F144.out.later hb153); have F163 := Lib.hid (F145.out.later hb153); have F164 := Lib.hid (F146.out.later hb153); have F165 := Lib.hid (F147.out.later hb153); have F166 := Lib.hid (F148.out.later hb153); have F167 := Lib.hid (F149.out.later hb153); have F168 := Lib.hid (F150.out.later hb153); have F169 := Lib.hid (F151.out.later hb153); have F155 := Lib.hid i170; have F156 := Lib.hid v171; have F157 := Lib.hid u172; clear hb153 i170 v171 u172 M140 F142 F143 F144 F145 F146 F147 F148 F149 F150 F151)
    | (clear ok8_1; go_at_call 18; refine (Veq_J _ qh _ _ _ _ _ _ F166.out.j F156.out.j).mono ?_; rintro e W173 ⟨rfl, hb174⟩; have M175 := M158.call hb174; have z176 := hb174.size; have F177 := Lib.hid (F160.out.later hb174); have F178 := Lib.hid (F161.out.later hb174); have F179 := Lib.hid (F162.out.later hb174); have F180 := Lib.hid (F163.out.later hb174); have F181 := Lib.hid (F164.out.later hb174); have F182 := Lib.hid (F165.out.later hb174); have F183 := Lib.hid (F166.out.later hb174); have F184 := Lib.hid (F167.out.later hb174); have F185 := Lib.hid (F168.out.later hb174); have F186 := Lib.hid (F169.out.later hb174); clear hb174 M158 F160 F161 F162 F163 F164 F165 F166 F167 F168 F169 F155 F156 F157))
  go_upto_region 20 with (go_at_call 26; refine (Fmark_any _ ql (1) (by omega) _ _ _ F181.out).mono ?_; rintro e W187 ⟨rfl, hm189, v190⟩; have M192 := FMem.marked M175 hm189 (by omega) (fun i e h => Or.inl (Nat.lt_of_lt_of_le (HM0.out i e h) (by omega))); have z193 := hm189.size; have F194 := Lib.hid (F177.out.marked hm189 (by omega)); have F195 := Lib.hid (F178.out.marked hm189 (by omega)); have F196 := Lib.hid (F183.out.marked hm189 (by omega)); have F197 := Lib.hid (F184.out.marked hm189 (by omega)); have F198 := Lib.hid (F185.out.marked hm189 (by omega)); have F199 := Lib.hid (F186.out.marked hm189 (by omega)); have F191 := Lib.hid v190; clear hm189 v190 M175 F177 F178 F179 F180 F181 F182 F183 F184 F185 F186)
  go_upto_region 21 with (go_at_call 19; refine (Vmark_any _ qh (1 + 6 * zl) (by omega) _ _ _ F197.out).mono ?_; rintro e W200 ⟨rfl, hm202, v203⟩; have M205 := VMem.marked M192 hm202 (by omega) (fun i e h => Or.inl (Nat.lt_of_lt_of_le (HM0.out i e h) (by omega))); have z206 := hm202.size; have F207 := Lib.hid (F194.out.marked hm202 (by omega)); have F208 := Lib.hid (F195.out.marked hm202 (by omega)); have F209 := Lib.hid (F198.out.marked hm202 (by omega)); have F210 := Lib.hid (F199.out.marked hm202 (by omega)); have F204 := Lib.hid v203; clear hm202 v203 M192 F194 F195 F196 F197 F198 F199 F191)
  go_upto_region 24 with (go_at_call 29; refine (Neq_J _ hrb0 _ _ _ _ _ _ F209.out.j F207.out.j).mono ?_; rintro e W211 ⟨rfl, hb212⟩; have M213 := M205.call hb212; have z214 := hb212.size; have F215 := Lib.hid (F207.out.later hb212); have F216 := Lib.hid (F208.out.later hb212); have F217 := Lib.hid (F209.out.later hb212); have F218 := Lib.hid (F210.out.later hb212); clear hb212 M205 F207 F208 F209 F210 F204)
  go_upto_region 26 with (go_at_call 30; refine (Nmark_any _ hrb0 (1) (by omega) _ _ _ F218.out).mono ?_; rintro e W219 ⟨rfl, hm221, v222⟩; have M224 := NMem.marked M213 hm221 (by omega) (fun i e h => Or.inl (Nat.lt_of_lt_of_le (HM0.out i e h) (by omega))); have z225 := hm221.size; have F226 := Lib.hid (F215.out.marked hm221 (by omega)); have F227 := Lib.hid (F216.out.marked hm221 (by omega)); have F223 := Lib.hid v222; clear hm221 v222 M213 F215 F216 F217 F218)
  go_upto_region 31 with (go_at_call 31; refine (Nheld_any _ hrb0 (1) (by omega) _ _ _ F223.out).mono ?_; rintro e W228 ⟨rfl, hb229⟩; have M230 := M224.call hb229; have z231 := hb229.size; have F232 := Lib.hid (F226.out.later hb229); have F233 := Lib.hid (F227.out.later hb229); have F234 := Lib.hid (F223.out.later hb229); clear hb229 M224 F226 F227 F223)
  have ok14_0 : True := trivial
  have ok14_1 : True := trivial
  have ok14_2 : True := trivial
  have ok14_3 : True := trivial
  have ok14_4 : True := trivial
  go_upto_region 32 with (first
    | (clear ok14_0; refine wpList_load_part rfl 27 _ rfl (w.heap.size) 0 rfl (fcells f) _ (M230.at 0 rfl).whole Tryd.underlying27 rfl (by rw [fcells_size]; exact sizeFl) ?_)
    | (clear ok14_1; go_at_call 10; refine (toField _ _).mono ?_; rintro e W235 ⟨rfl, hb236⟩; have M237 := M230.call hb236; have z238 := hb236.size; have F239 := Lib.hid (F232.out.later hb236); have F240 := Lib.hid (F233.out.later hb236); have F241 := Lib.hid (F234.out.later hb236); clear hb236 M230 F232 F233 F234)
    | (clear ok14_2; go_at_call 23; refine (Fto_any zl ql l sl cl _ (Hhil.out.later M237.below)).mono ?_; rintro e W242 ⟨b244, rfl, i253, v254, u255, hb243⟩; have M248 := M237.call hb243; have z249 := hb243.size; have F250 := Lib.hid (F239.out.later hb243); have F251 := Lib.hid (F240.out.later hb243); have F252 := Lib.hid (F241.out.later hb243); have F245 := Lib.hid i253; have F246 := Lib.hid v254; have F247 := Lib.hid u255; clear hb243 i253 v254 u255 M237 F239 F240 F241)
    | (clear ok14_3; go_at_call 34; refine (Vto_any zh qh h sh ch _ (Hhih.out.later M248.below)).mono ?_; rintro e W256 ⟨b258, rfl, i270, v271, u272, hb257⟩; have M262 := M248.call hb257; have z263 := hb257.size; have F264 := Lib.hid (F250.out.later hb257); have F265 := Lib.hid (F251.out.later hb257); have F266 := Lib.hid (F252.out.later hb257); have F267 := Lib.hid (F245.out.later hb257); have F268 := Lib.hid (F246.out.later hb257); have F269 := Lib.hid (F247.out.later hb257); have F259 := Lib.hid i270; have F260 := Lib.hid v271; have F261 := Lib.hid u272; clear hb257 i270 v271 u272 M248 F250 F251 F252 F245 F246 F247)
    | (clear ok14_4; go_at_call 35; refine (implEatenBy f hff zl ql l Hhgl.out b244 zl zh qh h Hhgh.out b258 zh A _ (T.out.later M262.below) (S.out.later M262.below) F267.out F259.out).mono ?_; rintro e W273 ⟨p280, c281, rfl, v282, u283, hb274⟩; rw [HR0.out, HR1.out]; rw [HR0.out] at v282 u283; have F284 := Lib.hid v282; have F285 := Lib.hid u283; have M275 := M262.call hb274; have z276 := hb274.size; have F277 := Lib.hid (F264.out.later hb274); have F278 := Lib.hid (F265.out.later hb274); have F279 := Lib.hid (F266.out.later hb274); clear hb274 v282 u283 M262 F264 F265 F266 F267 F268 F269 F259 F260 F261))
  go_upto_region 35 with (go_at_call 29; refine (Neq_J _ hrb0 _ _ _ _ _ _ F284.out.j F277.out.j).mono ?_; rintro e W286 ⟨rfl, hb287⟩; have M288 := M275.call hb287; have z289 := hb287.size; have F290 := Lib.hid (F279.out.later hb287); clear hb287 M275 F277 F278 F279 F284 F285)
  go_wp2_with (go_at_call 31; refine (Nheld_any _ hrb0 (1) (by omega) _ _ _ F290.out).mono ?_; rintro e W291 ⟨rfl, hb292⟩; have M293 := M288.call hb292; have z294 := hb292.size; clear hb292 M288 F290)
  go_ret
  exact ⟨rfl, M293.below⟩
theorem trodVars_len {H : Type} {enc : TypeId × Value → H} {P : Program} {w : World} {sp : Nat → Bool} : ∀ {ns : List String} {gs : List (DataW H)} {ps : List MemPlace}, DataW.TrodVars enc P w sp ns gs ps → gs.length = ns.length
  | [], [], _, _ => rfl
  | [], _ :: _, _, h => h.elim
  | _ :: _, [], _, h => h.elim
  | _ :: _, _ :: _, _, ⟨_, _, _, _, _, _, _, _, _, _, h, _⟩ => congrArg (· + 1) (trodVars_len h)
theorem door_met (os : Os) (args : Array Value) : laidMetH Tryd.prog Rows.fnExactEatenByRow.laid ((World.doorLaid Tryd.prog 400 os).forCall (fun _ _ => 0) ⟨#[], args, []⟩).memory :=
  laidMetH_of_parts3 (fuel := 8) (laidMet_of_run' 8 (by kernel_rfl) (by kernel_rfl)) (by kernel_rfl) (by kernel_rfl)
set_option maxRecDepth 100000 in
theorem lifted (os : Os) (started : os.Started) (H : Type) (enc : TypeId × Value → H) :
    ReturnsInHanded {} Tryd.checked os 7 .any (fun w args => (Rows.fnExactEatenBySpec.pre enc Tryd.prog Tryd.f7 Rows.fnExactEatenByRow.domain false w args ∧ laidMetH Tryd.prog Rows.fnExactEatenByRow.laid w) ∧ sizedMet enc Tryd.prog Tryd.f7 (OpenSpec.ofChange Rows.fnExactEatenBySpec) false w args) (Rows.fnExactEatenBySpec.post enc Tryd.prog Tryd.f7 false true false false) := by
  refine returnsInHanded_of_change_and (C := Tryd.checked) (X := fun w _ => laidMetH Tryd.prog Rows.fnExactEatenByRow.laid w) (fun _ _ _ hh h => h.of_heap hh) own started (by kernel_rfl) Tryd.func7
    (ChangeSpec.witness_shaped (enc := enc) (C := Tryd.checked) (os := os) (X := fun w _ => laidMetH Tryd.prog Rows.fnExactEatenByRow.laid w) false (World.doorLaid Tryd.prog 400 os) #[.agg (fcells Fd.zero), .slice none 0 0, .slice none 0 0] 8 rfl (World.shaped_of_RefB (by kernel_rfl) (by kernel_rfl)) (by kernel_rfl) (by kernel_rfl) (by kernel_rfl) (door_met os _)) ?_
  intro W base args ds gs before hval0 hW _ _ hL _
  have hval : ∀ (j : Nat) t v, Tryd.f7.params[j]? = some t → args[j]? = some v → Value.okWide Tryd.prog W .any base t v := hval0
  have hW' := hW
  obtain ⟨p, q, hA0, hV0, rfl, hfz, hnd⟩ := hW
  have hA : DataW.TrodAll enc Tryd.prog W 0 (fun _ => true) true Tryd.f7.params.toList args.toList ds p := hA0
  have hV : DataW.TrodVars enc Tryd.prog W (fun _ => true) Rows.fnExactEatenBySpec.vars gs q := hV0
  rw [Tryd.params7] at hA hval
  obtain ⟨v0, vs0, d0, ds0, p0, q0, hargs, rfl, rfl, h0, r0⟩ := trodAll_cons hA
  obtain ⟨v1, vs1, d1, ds1, p1, q1, rfl, rfl, rfl, h1, r1⟩ := trodAll_cons r0
  obtain ⟨v2, vs2, d2, ds2, p2, q2, rfl, rfl, rfl, h2, r2⟩ := trodAll_cons r1
  obtain ⟨rfl, rfl, rfl⟩ := trodAll_nil r2
  obtain rfl : args = #[v0, v1, v2] := by cases args; simp_all
  rw [MakeChecks.laidMetH_plain _ _ _ (by kernel_rfl)] at hL
  obtain ⟨A, SV⟩ := sentVars (rest := [(tabName, Rows.laid_loop_example_g01338_impl_mostOfFlock)]) hL
  have T : TabAt W := by
    obtain ⟨ps, hv, _, _⟩ := hL
    obtain ⟨_, _, _, _, _, _, _, _, _, _, hv, _⟩ := hv
    obtain ⟨_, _, _, _, _, _, _, _, _, _, hv, _⟩ := hv
    obtain ⟨_, _, _, _, _, _, _, _, _, _, hv, _⟩ := hv
    obtain ⟨_, _, _, _, _, _, _, _, _, _, hv, _⟩ := hv
    obtain ⟨_, _, _, _, _, _, _, _, _, _, hv, _⟩ := hv
    obtain ⟨_, _, _, _, _, _, _, _, _, _, hv, _⟩ := hv
    obtain ⟨_, _, _, _, _, _, _, _, _, _, hv, _⟩ := hv
    obtain ⟨_, _, _, _, _, _, _, _, _, _, hv, _⟩ := hv
    exact tab_of hv
  have hlen := trodVars_len hV
  obtain ⟨gv1, gv2, gv3, gv4, gv5, gv6, gv7, gv8, gv9, rfl⟩ : ∃ gv1 gv2 gv3 gv4 gv5 gv6 gv7 gv8 gv9, gs = [gv1, gv2, gv3, gv4, gv5, gv6, gv7, gv8, gv9] := by
    match gs, hlen with
    | [gv1, gv2, gv3, gv4, gv5, gv6, gv7, gv8, gv9], _ => exact ⟨gv1, gv2, gv3, gv4, gv5, gv6, gv7, gv8, gv9, rfl⟩
  have k0 := h0
  have lt0 : ∀ x ∈ p0, x.block < W.heap.size := by obtain ⟨m, hm⟩ := k0; exact DataW.trod_lt m _ _ _ hm
  have k1 := h1
  have lt1 : ∀ x ∈ p1, x.block < W.heap.size := by obtain ⟨m, hm⟩ := k1; exact DataW.trod_lt m _ _ _ hm
  have k2 := h2
  have lt2 : ∀ x ∈ p2, x.block < W.heap.size := by obtain ⟨m, hm⟩ := k2; exact DataW.trod_lt m _ _ _ hm
  obtain ⟨f0, rfl, hf0⟩ := open_field (fs := Tryd.prog.fieldsOf 27) (by kernel_rfl) (by kernel_rfl) Tryd.underlying22 Tryd.underlying23 Tryd.underlying5 Tryd.underlying25 Tryd.underlying24 (by kernel_rfl) (by kernel_rfl) (by kernel_rfl) (by kernel_rfl) (by kernel_rfl) (by kernel_rfl) (hval 0 27 v0 rfl rfl) h0
  obtain ⟨s1, z1, c1, G1, rfl, hz1, hi1, hg1⟩ := open_ints (ks := ksFlock) (fs := Tryd.prog.fieldsOf 29) Tryd.underlying48 (by kernel_rfl) (by decide) (by kernel_rfl) (by kernel_rfl) (hval 1 48 v1 rfl rfl) h1
  obtain ⟨s2, z2, c2, G2, rfl, hz2, hi2, hg2⟩ := open_ints (ks := ksVisit) (fs := Tryd.prog.fieldsOf 101) Tryd.underlying62 (by kernel_rfl) (by decide) (by kernel_rfl) (by kernel_rfl) (hval 2 62 v2 rfl rfl) h2
  clear hA0 hval0 hV0
  refine (walk W f0 hf0 s1 z1 c1 G1 (by simpa [maxLen] using hz1) hi1 hg1 s2 z2 c2 G2 (by simpa [maxLen] using hz2) hi2 hg2 A T SV.sents).mono fun e W' ⟨he, bel⟩ => ?_
  subst he
  exact ⟨_, rfl, _, _, _, [], _, _, hW', trodAll_mk1 (shut_bool Tryd.underlying4 _), (trodAll_cons_mk (Below.trod laidOut (by kernel_rfl) (of_decide_eq_true (by kernel_rfl)) k0 bel lt0) (trodAll_cons_mk (Below.trod laidOut (by kernel_rfl) (of_decide_eq_true (by kernel_rfl)) k1 bel lt1) (trodAll_cons_mk (Below.trod laidOut (by kernel_rfl) (of_decide_eq_true (by kernel_rfl)) k2 bel lt2) trodAll_mk0))), Below.trodVars laidOut bel (by kernel_rfl) hV, bel.frame _, fun h => by cases h⟩

theorem over : Rows.fnExactEatenByRow.holds Tryd.pinned (OpenSpec.ofChange Rows.fnExactEatenBySpec) :=
  OpenClaim.holds_of_wide 7 Tryd.f7 rfl rfl rfl rfl rfl rfl rfl ⟨rfl, rfl, rfl, rfl, rfl⟩ rfl rfl rfl rfl rfl (by kernel_rfl) Tryd.func7 (by kernel_rfl)
    (of_decide_eq_true (by kernel_rfl)) (by unfold Func.isWrapper; first | (rw [if_pos (by decide +kernel)]; kernel_rfl) | (rw [if_neg (by decide +kernel)]; exact ⟨rfl, rfl⟩))
    (fun os started H enc _ => lifted os started H enc)
theorem proved : Rows.FnExactEatenByCardSaid :=
  Claim7.holds_tied_plain_at .later [] [.sentinel, .sentinel, .sentinel, .sentinel, .sentinel, .sentinel, .sentinel, .sentinel, .data] true (true, "12764da00c9b4c602e80c2758c989fcc8950fe1572823cb35943fe2ef56628fc") true
    over (fun _ h => by cases h) (by kernel_rfl) (fun _ h => by cases h) fnExactEatenBy_row_tie rfl ⟨rfl, rfl⟩ (by kernel_rfl) rfl
    (fun f fn hf hfn => by
      obtain rfl : f = 7 := Option.some.inj ((show Tryd.prog.funcNamed "loop.example/g01338/laws.FnExactEatenBy" = some 7 by kernel_rfl).symm.trans hf) |>.symm
      obtain rfl : fn = Tryd.f7 := (Option.some.inj (Tryd.func7.symm.trans hfn)).symm
      exact ⟨by kernel_rfl, fun j t ht => by
        rw [Tryd.params7] at ht
        have hm : t ∈ [27, 48, 62] := by simpa using Array.mem_of_getElem? ht
        have hall : ([27, 48, 62].all fun u => !Tryd.prog.wantsStandIn u) = true := by kernel_rfl
        exact (show Tryd.prog.wantsStandIn t = false by simpa using List.all_eq_true.1 hall t hm)⟩)
    (by kernel_rfl)
#print axioms proved
end Go.Proofs.YtaioflkonpommaaDoor.lawEatenBy
