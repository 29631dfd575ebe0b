/-
  JoinBeats: for all arguments the program answers as the model does, and its memory is its own: no condition beyond the listed sentinels, which the card ties to the program's text.
-/
import Derived.Test.YtdjbaajcgipebaaDoorJoinI
import Derived.Test.YtdjbaajcgipebaaDoorLawh
import Derived.Test.YtdjbaajcgipebaaDoorOpen
import Derived.Test.YtdjbaajcgipebaaDoorCard
import Derived.Test.YtdjbaajcgipebaaDoorTie
import Derived.Test.YtdjbaajcgipebaaDoorCards
import Derived.SevenTiedAt
import Derived.OpenVars
import Derived.ChangeOld
import Derived.Below
namespace Go.Proofs.YtdjbaajcgipebaaDoor.lawJoinBeats
open Go Go.ChangeShapes Go.WideShapes Go.ChangeAt Go.RowKit

set_option maxRecDepth 100000 in
set_option maxHeartbeats 16000000 in
theorem walk (w : World) (f : Fd) (hff : f.Wf) (sg : Option Addr) (zg cg : Nat) (g : Nat → Int) (hzg : zg ≤ 2 ^ 63 - 1) (hig : HJ w sg zg g) (hgg : WfH zg g) (sh : Option Addr) (zh ch : Nat) (h : Nat → Int) (hzh : zh ≤ 2 ^ 63 - 1) (hih : HJ w sh zh h) (hgh : WfH zh h) (A : Nat → Addr) (S0 : Sents w A) :
    Calls Tryd.prog 6 #[.agg (fcells f), .slice sg zg cg, .slice sh zh ch] w fun e w' => e = .returned (.bool true) ∧ Below w.heap.size w w' := by
  have S : Hid (Sents w A) := Lib.hid S0
  clear S0
  have Hhig := Lib.hid hig
  have Hhgg := Lib.hid hgg
  have Hhih := Lib.hid hih
  have Hhgh := Lib.hid hgh
  clear hig hgg hih hgh
  by_cases hbg : 1048576 < zg
  · have tg : decide (1048576 < (zg : Int)) = true := decide_eq_true (by omega)
    go_enter Tryd.func6, Tryd.ntmps6
    go_upto_region 1 with (fail)
    obtain ⟨W0, hW, M0⟩ := open1 w (fcells f) 27
    rw [hW]; clear hW
    go_wp2_with (fail)
    go_ret
    exact ⟨rfl, M0.below⟩
  have qg : zg ≤ 2 ^ 40 := by omega
  have tg : decide (1048576 < (zg : Int)) = false := decide_eq_false (by omega)
  by_cases hbh : 1048576 < zh
  · have th : decide (1048576 < (zh : Int)) = true := decide_eq_true (by omega)
    go_enter Tryd.func6, Tryd.ntmps6
    go_upto_region 1 with (fail)
    obtain ⟨W0, hW, M0⟩ := open1 w (fcells f) 27
    rw [hW]; clear hW
    go_wp2_with (fail)
    go_ret
    exact ⟨rfl, M0.below⟩
  have qh : zh ≤ 2 ^ 40 := by omega
  have th : decide (1048576 < (zh : Int)) = false := decide_eq_false (by omega)
  have hrb0 : (joinN f zg g zh h) ≤ 2 ^ 40 := by have := joinN_le f zg g zh h; omega
  obtain ⟨rn0, hrn0⟩ : ∃ y, (joinN f zg g zh h) = y := ⟨_, rfl⟩
  rw [hrn0] at hrb0
  have HR0 := Lib.hid hrn0
  clear hrn0
  obtain ⟨rv1, hrv1⟩ : ∃ y, (joinCode f zg g zh h) = y := ⟨_, rfl⟩
  have HR1 := Lib.hid hrv1
  clear hrv1
  go_enter Tryd.func6, Tryd.ntmps6
  go_upto_region 1 with (fail)
  obtain ⟨W0, hW, M0⟩ := open1 w (fcells f) 27
  rw [hW]; clear hW
  have HM0 := Lib.hid M0.before
  have z0 : w.heap.size ≤ W0.heap.size := M0.below.size
  have ok0_0 : True := trivial
  have ok0_1 : True := trivial
  have ok0_2 : True := trivial
  have ok0_3 : True := trivial
  have ok0_4 : True := trivial
  go_upto_region 6 with (first
    | (clear ok0_0; refine wpList_load_part rfl 27 _ rfl (w.heap.size) 0 rfl (fcells f) _ (M0.at 0 rfl).whole Tryd.underlying27 rfl (by rw [fcells_size]; exact sizeFl) ?_)
    | (clear ok0_1; go_at_call 12; refine (toField _ _).mono ?_; rintro e W1 ⟨rfl, hb2⟩; have M3 := M0.call hb2; have z4 := hb2.size; clear hb2 M0)
    | (clear ok0_2; go_at_call 13; refine (Hto_any zg qg g sg cg _ (Hhig.out.later M3.below)).mono ?_; rintro e W5 ⟨b7, rfl, i13, v14, u15, hb6⟩; have M11 := M3.call hb6; have z12 := hb6.size; have F8 := Lib.hid i13; have F9 := Lib.hid v14; have F10 := Lib.hid u15; clear hb6 i13 v14 u15 M3)
    | (clear ok0_3; go_at_call 13; refine (Hto_any zh qh h sh ch _ (Hhih.out.later M11.below)).mono ?_; rintro e W16 ⟨b18, rfl, i27, v28, u29, hb17⟩; have M22 := M11.call hb17; have z23 := hb17.size; have F24 := Lib.hid (F8.out.later hb17); have F25 := Lib.hid (F9.out.later hb17); have F26 := Lib.hid (F10.out.later hb17); have F19 := Lib.hid i27; have F20 := Lib.hid v28; have F21 := Lib.hid u29; clear hb17 i27 v28 u29 M11 F8 F9 F10)
    | (clear ok0_4; go_at_call 22; refine (specJoinBeats f hff zg qg g Hhgg.out zh qh h Hhgh.out b7 zg b18 zh _ F24.out F19.out).mono ?_; rintro e W30 ⟨p34, c35, rfl, v36, u37, hb31⟩; rw [HR0.out, HR1.out]; rw [HR0.out] at v36 u37; have F38 := Lib.hid v36; have F39 := Lib.hid u37; have M32 := M22.call hb31; have z33 := hb31.size; clear hb31 v36 u37 M22 F24 F25 F26 F19 F20 F21))
  go_upto_region 7 with (go_at_call 13; refine (Hto_any zg qg g sg cg _ (Hhig.out.later M32.below)).mono ?_; rintro e W40 ⟨b42, rfl, i50, v51, u52, hb41⟩; have M46 := M32.call hb41; have z47 := hb41.size; have F48 := Lib.hid (F38.out.later hb41); have F49 := Lib.hid (F39.out.later hb41); have F43 := Lib.hid i50; have F44 := Lib.hid v51; have F45 := Lib.hid u52; clear hb41 i50 v51 u52 M32 F38 F39)
  go_upto_region 8 with (go_at_call 13; refine (Hto_any zh qh h sh ch _ (Hhih.out.later M46.below)).mono ?_; rintro e W53 ⟨b55, rfl, i66, v67, u68, hb54⟩; have M59 := M46.call hb54; have z60 := hb54.size; have F61 := Lib.hid (F48.out.later hb54); have F62 := Lib.hid (F49.out.later hb54); have F63 := Lib.hid (F43.out.later hb54); have F64 := Lib.hid (F44.out.later hb54); have F65 := Lib.hid (F45.out.later hb54); have F56 := Lib.hid i66; have F57 := Lib.hid v67; have F58 := Lib.hid u68; clear hb54 i66 v67 u68 M46 F48 F49 F43 F44 F45)
  have ok3_0 : True := trivial
  have ok3_1 : True := trivial
  have ok3_2 : True := trivial
  go_upto_region 9 with (first
    | (clear ok3_0; refine wpList_load_part rfl 27 _ rfl (w.heap.size) 0 rfl (fcells f) _ (M59.at 0 rfl).whole Tryd.underlying27 rfl (by rw [fcells_size]; exact sizeFl) ?_)
    | (clear ok3_1; go_at_call 12; refine (toField _ _).mono ?_; rintro e W69 ⟨rfl, hb70⟩; have M71 := M59.call hb70; have z72 := hb70.size; have F73 := Lib.hid (F61.out.later hb70); have F74 := Lib.hid (F62.out.later hb70); have F75 := Lib.hid (F63.out.later hb70); have F76 := Lib.hid (F64.out.later hb70); have F77 := Lib.hid (F65.out.later hb70); have F78 := Lib.hid (F56.out.later hb70); have F79 := Lib.hid (F57.out.later hb70); have F80 := Lib.hid (F58.out.later hb70); clear hb70 M59 F61 F62 F63 F64 F65 F56 F57 F58)
    | (clear ok3_2; go_at_call 23; refine (implJoinBeats f hff zg qg g Hhgg.out zh qh h Hhgh.out b42 b55 A _ F75.out F78.out (S.out.later M71.below)).mono ?_; rintro e W81 ⟨p93, c94, rfl, v95, u96, hb82⟩; rw [HR0.out, HR1.out]; rw [HR0.out] at v95 u96; have F97 := Lib.hid v95; have F98 := Lib.hid u96; have M83 := M71.call hb82; have z84 := hb82.size; have F85 := Lib.hid (F73.out.later hb82); have F86 := Lib.hid (F74.out.later hb82); have F87 := Lib.hid (F75.out.later hb82); have F88 := Lib.hid (F76.out.later hb82); have F89 := Lib.hid (F77.out.later hb82); have F90 := Lib.hid (F78.out.later hb82); have F91 := Lib.hid (F79.out.later hb82); have F92 := Lib.hid (F80.out.later hb82); clear hb82 v95 u96 M71 F73 F74 F75 F76 F77 F78 F79 F80))
  go_upto_region 11 with (go_at_call 15; refine (Heq_J _ hrb0 _ _ _ _ _ _ F97.out.j F85.out.j).mono ?_; rintro e W99 ⟨rfl, hb100⟩; have M101 := M83.call hb100; have z102 := hb100.size; have F103 := Lib.hid (F85.out.later hb100); have F104 := Lib.hid (F86.out.later hb100); have F105 := Lib.hid (F87.out.later hb100); have F106 := Lib.hid (F88.out.later hb100); have F107 := Lib.hid (F89.out.later hb100); have F108 := Lib.hid (F90.out.later hb100); have F109 := Lib.hid (F91.out.later hb100); have F110 := Lib.hid (F92.out.later hb100); have F111 := Lib.hid (F97.out.later hb100); have F112 := Lib.hid (F98.out.later hb100); clear hb100 M83 F85 F86 F87 F88 F89 F90 F91 F92 F97 F98)
  have ok5_0 : True := trivial
  have ok5_1 : True := trivial
  go_upto_region 13 with (first
    | (clear ok5_0; go_at_call 13; refine (Hto_any zg qg g sg cg _ (Hhig.out.later M101.below)).mono ?_; rintro e W113 ⟨b115, rfl, i131, v132, u133, hb114⟩; have M119 := M101.call hb114; have z120 := hb114.size; have F121 := Lib.hid (F103.out.later hb114); have F122 := Lib.hid (F104.out.later hb114); have F123 := Lib.hid (F105.out.later hb114); have F124 := Lib.hid (F106.out.later hb114); have F125 := Lib.hid (F107.out.later hb114); have F126 := Lib.hid (F108.out.later hb114); have F127 := Lib.hid (F109.out.later hb114); have F128 := Lib.hid (F110.out.later hb114); have F129 := Lib.hid (F111.out.later hb114); have F130 := Lib.hid (F112.out.later hb114); have F116 := Lib.hid i131; have F117 := Lib.hid v132; have F118 := Lib.hid u133; clear hb114 i131 v132 u133 M101 F103 F104 F105 F106 F107 F108 F109 F110 F111 F112)
    | (clear ok5_1; go_at_call 15; refine (Heq_J _ qg _ _ _ _ _ _ F124.out.j F117.out.j).mono ?_; rintro e W134 ⟨rfl, hb135⟩; have M136 := M119.call hb135; have z137 := hb135.size; have F138 := Lib.hid (F121.out.later hb135); have F139 := Lib.hid (F122.out.later hb135); have F140 := Lib.hid (F123.out.later hb135); have F141 := Lib.hid (F124.out.later hb135); have F142 := Lib.hid (F125.out.later hb135); have F143 := Lib.hid (F126.out.later hb135); have F144 := Lib.hid (F127.out.later hb135); have F145 := Lib.hid (F128.out.later hb135); have F146 := Lib.hid (F129.out.later hb135); have F147 := Lib.hid (F130.out.later hb135); clear hb135 M119 F121 F122 F123 F124 F125 F126 F127 F128 F129 F130 F116 F117 F118))
  have ok6_0 : True := trivial
  have ok6_1 : True := trivial
  go_upto_region 16 with (first
    | (clear ok6_0; go_at_call 13; refine (Hto_any zh qh h sh ch _ (Hhih.out.later M136.below)).mono ?_; rintro e W148 ⟨b150, rfl, i166, v167, u168, hb149⟩; have M154 := M136.call hb149; have z155 := hb149.size; have F156 := Lib.hid (F138.out.later hb149); have F157 := Lib.hid (F139.out.later hb149); have F158 := Lib.hid (F140.out.later hb149); have F159 := Lib.hid (F141.out.later hb149); have F160 := Lib.hid (F142.out.later hb149); have F161 := Lib.hid (F143.out.later hb149); have F162 := Lib.hid (F144.out.later hb149); have F163 := Lib.hid (F145.out.later hb149); have F164 := Lib.hid (F146.out.later hb149); have F165 := Lib.hid (F147.out.later hb149); have F151 := Lib.hid i166; have F152 := Lib.hid v167; have F153 := Lib.hid u168; clear hb149 i166 v167 u168 M136 F138 F139 F140 F141 F142 F143 F144 F145 F146 F147)
    | (clear ok6_1; go_at_call 15; refine (Heq_J _ qh _ _ _ _ _ _ F162.out.j F152.out.j).mono ?_; rintro e W169 ⟨rfl, hb170⟩; have M171 := M154.call hb170; have z172 := hb170.size; have F173 := Lib.hid (F156.out.later hb170); have F174 := Lib.hid (F157.out.later hb170); have F175 := Lib.hid (F158.out.later hb170); have F176 := Lib.hid (F159.out.later hb170); have F177 := Lib.hid (F160.out.later hb170); have F178 := Lib.hid (F161.out.later hb170); have F179 := Lib.hid (F162.out.later hb170); have F180 := Lib.hid (F163.out.later hb170); have F181 := Lib.hid (F164.out.later hb170); have F182 := Lib.hid (F165.out.later hb170); clear hb170 M154 F156 F157 F158 F159 F160 F161 F162 F163 F164 F165 F151 F152 F153))
  go_upto_region 17 with (go_at_call 18; refine (Hmark_any _ qg (1) (by omega) _ _ _ F177.out).mono ?_; rintro e W183 ⟨rfl, hm185, v186⟩; have M188 := HMem.marked M171 hm185 (by omega) (fun i e h => Or.inl (Nat.lt_of_lt_of_le (HM0.out i e h) (by omega))); have z189 := hm185.size; have F190 := Lib.hid (F173.out.marked hm185 (by omega)); have F191 := Lib.hid (F174.out.marked hm185 (by omega)); have F192 := Lib.hid (F179.out.marked hm185 (by omega)); have F193 := Lib.hid (F180.out.marked hm185 (by omega)); have F194 := Lib.hid (F181.out.marked hm185 (by omega)); have F195 := Lib.hid (F182.out.marked hm185 (by omega)); have F187 := Lib.hid v186; clear hm185 v186 M171 F173 F174 F175 F176 F177 F178 F179 F180 F181 F182)
  go_upto_region 18 with (go_at_call 18; refine (Hmark_any _ qh (1 + zg) (by omega) _ _ _ F193.out).mono ?_; rintro e W196 ⟨rfl, hm198, v199⟩; have M201 := HMem.marked M188 hm198 (by omega) (fun i e h => Or.inl (Nat.lt_of_lt_of_le (HM0.out i e h) (by omega))); have z202 := hm198.size; have F203 := Lib.hid (F190.out.marked hm198 (by omega)); have F204 := Lib.hid (F191.out.marked hm198 (by omega)); have F205 := Lib.hid (F194.out.marked hm198 (by omega)); have F206 := Lib.hid (F195.out.marked hm198 (by omega)); have F200 := Lib.hid v199; clear hm198 v199 M188 F190 F191 F192 F193 F194 F195 F187)
  go_upto_region 21 with (go_at_call 15; refine (Heq_J _ hrb0 _ _ _ _ _ _ F205.out.j F203.out.j).mono ?_; rintro e W207 ⟨rfl, hb208⟩; have M209 := M201.call hb208; have z210 := hb208.size; have F211 := Lib.hid (F203.out.later hb208); have F212 := Lib.hid (F204.out.later hb208); have F213 := Lib.hid (F205.out.later hb208); have F214 := Lib.hid (F206.out.later hb208); clear hb208 M201 F203 F204 F205 F206 F200)
  go_upto_region 23 with (go_at_call 18; refine (Hmark_any _ hrb0 (1) (by omega) _ _ _ F214.out).mono ?_; rintro e W215 ⟨rfl, hm217, v218⟩; have M220 := HMem.marked M209 hm217 (by omega) (fun i e h => Or.inl (Nat.lt_of_lt_of_le (HM0.out i e h) (by omega))); have z221 := hm217.size; have F222 := Lib.hid (F211.out.marked hm217 (by omega)); have F223 := Lib.hid (F212.out.marked hm217 (by omega)); have F219 := Lib.hid v218; clear hm217 v218 M209 F211 F212 F213 F214)
  go_upto_region 28 with (go_at_call 19; refine (Hheld_any _ hrb0 (1) (by omega) _ _ _ F219.out).mono ?_; rintro e W224 ⟨rfl, hb225⟩; have M226 := M220.call hb225; have z227 := hb225.size; have F228 := Lib.hid (F222.out.later hb225); have F229 := Lib.hid (F223.out.later hb225); have F230 := Lib.hid (F219.out.later hb225); clear hb225 M220 F222 F223 F219)
  have ok12_0 : True := trivial
  have ok12_1 : True := trivial
  have ok12_2 : True := trivial
  have ok12_3 : True := trivial
  have ok12_4 : True := trivial
  go_upto_region 29 with (first
    | (clear ok12_0; refine wpList_load_part rfl 27 _ rfl (w.heap.size) 0 rfl (fcells f) _ (M226.at 0 rfl).whole Tryd.underlying27 rfl (by rw [fcells_size]; exact sizeFl) ?_)
    | (clear ok12_1; go_at_call 12; refine (toField _ _).mono ?_; rintro e W231 ⟨rfl, hb232⟩; have M233 := M226.call hb232; have z234 := hb232.size; have F235 := Lib.hid (F228.out.later hb232); have F236 := Lib.hid (F229.out.later hb232); have F237 := Lib.hid (F230.out.later hb232); clear hb232 M226 F228 F229 F230)
    | (clear ok12_2; go_at_call 13; refine (Hto_any zg qg g sg cg _ (Hhig.out.later M233.below)).mono ?_; rintro e W238 ⟨b240, rfl, i249, v250, u251, hb239⟩; have M244 := M233.call hb239; have z245 := hb239.size; have F246 := Lib.hid (F235.out.later hb239); have F247 := Lib.hid (F236.out.later hb239); have F248 := Lib.hid (F237.out.later hb239); have F241 := Lib.hid i249; have F242 := Lib.hid v250; have F243 := Lib.hid u251; clear hb239 i249 v250 u251 M233 F235 F236 F237)
    | (clear ok12_3; go_at_call 13; refine (Hto_any zh qh h sh ch _ (Hhih.out.later M244.below)).mono ?_; rintro e W252 ⟨b254, rfl, i266, v267, u268, hb253⟩; have M258 := M244.call hb253; have z259 := hb253.size; have F260 := Lib.hid (F246.out.later hb253); have F261 := Lib.hid (F247.out.later hb253); have F262 := Lib.hid (F248.out.later hb253); have F263 := Lib.hid (F241.out.later hb253); have F264 := Lib.hid (F242.out.later hb253); have F265 := Lib.hid (F243.out.later hb253); have F255 := Lib.hid i266; have F256 := Lib.hid v267; have F257 := Lib.hid u268; clear hb253 i266 v267 u268 M244 F246 F247 F248 F241 F242 F243)
    | (clear ok12_4; go_at_call 23; refine (implJoinBeats f hff zg qg g Hhgg.out zh qh h Hhgh.out b240 b254 A _ F263.out F255.out (S.out.later M258.below)).mono ?_; rintro e W269 ⟨p276, c277, rfl, v278, u279, hb270⟩; rw [HR0.out, HR1.out]; rw [HR0.out] at v278 u279; have F280 := Lib.hid v278; have F281 := Lib.hid u279; have M271 := M258.call hb270; have z272 := hb270.size; have F273 := Lib.hid (F260.out.later hb270); have F274 := Lib.hid (F261.out.later hb270); have F275 := Lib.hid (F262.out.later hb270); clear hb270 v278 u279 M258 F260 F261 F262 F263 F264 F265 F255 F256 F257))
  go_upto_region 32 with (go_at_call 15; refine (Heq_J _ hrb0 _ _ _ _ _ _ F280.out.j F273.out.j).mono ?_; rintro e W282 ⟨rfl, hb283⟩; have M284 := M271.call hb283; have z285 := hb283.size; have F286 := Lib.hid (F275.out.later hb283); clear hb283 M271 F273 F274 F275 F280 F281)
  go_wp2_with (go_at_call 19; refine (Hheld_any _ hrb0 (1) (by omega) _ _ _ F286.out).mono ?_; rintro e W287 ⟨rfl, hb288⟩; have M289 := M284.call hb288; have z290 := hb288.size; clear hb288 M284 F286)
  go_ret
  exact ⟨rfl, M289.below⟩
theorem trodVars_len {H : Type} {enc : TypeId × Value → H} {P : Program} {w : World} {sp : Nat → Bool} : ∀ {ns : List String} {gs : List (DataW H)} {ps : List MemPlace}, DataW.TrodVars enc P w sp ns gs ps → gs.length = ns.length
  | [], [], _, _ => rfl
  | [], _ :: _, _, h => h.elim
  | _ :: _, [], _, h => h.elim
  | _ :: _, _ :: _, _, ⟨_, _, _, _, _, _, _, _, _, _, h, _⟩ => congrArg (· + 1) (trodVars_len h)
theorem door_met (os : Os) (args : Array Value) : laidMetH Tryd.prog Rows.fnExactJoinBeatsRow.laid ((World.doorLaid Tryd.prog 400 os).forCall (fun _ _ => 0) ⟨#[], args, []⟩).memory :=
  laidMetH_of_parts3 (fuel := 8) (laidMet_of_run' 8 (by kernel_rfl) (by kernel_rfl)) (by kernel_rfl) (by kernel_rfl)
set_option maxRecDepth 100000 in
theorem lifted (os : Os) (started : os.Started) (H : Type) (enc : TypeId × Value → H) :
    ReturnsInHanded {} Tryd.checked os 6 .any (fun w args => (Rows.fnExactJoinBeatsSpec.pre enc Tryd.prog Tryd.f6 Rows.fnExactJoinBeatsRow.domain false w args ∧ laidMetH Tryd.prog Rows.fnExactJoinBeatsRow.laid w) ∧ sizedMet enc Tryd.prog Tryd.f6 (OpenSpec.ofChange Rows.fnExactJoinBeatsSpec) false w args) (Rows.fnExactJoinBeatsSpec.post enc Tryd.prog Tryd.f6 false true false false) := by
  refine returnsInHanded_of_change_and (C := Tryd.checked) (X := fun w _ => laidMetH Tryd.prog Rows.fnExactJoinBeatsRow.laid w) (fun _ _ _ hh h => h.of_heap hh) own started (by kernel_rfl) Tryd.func6
    (ChangeSpec.witness_shaped (enc := enc) (C := Tryd.checked) (os := os) (X := fun w _ => laidMetH Tryd.prog Rows.fnExactJoinBeatsRow.laid w) false (World.doorLaid Tryd.prog 400 os) #[.agg (fcells Fd.zero), .slice none 0 0, .slice none 0 0] 8 rfl (World.shaped_of_RefB (by kernel_rfl) (by kernel_rfl)) (by kernel_rfl) (by kernel_rfl) (by kernel_rfl) (door_met os _)) ?_
  intro W base args ds gs before hval0 hW _ _ hL _
  have hval : ∀ (j : Nat) t v, Tryd.f6.params[j]? = some t → args[j]? = some v → Value.okWide Tryd.prog W .any base t v := hval0
  have hW' := hW
  obtain ⟨p, q, hA0, hV0, rfl, hfz, hnd⟩ := hW
  have hA : DataW.TrodAll enc Tryd.prog W 0 (fun _ => true) true Tryd.f6.params.toList args.toList ds p := hA0
  have hV : DataW.TrodVars enc Tryd.prog W (fun _ => true) Rows.fnExactJoinBeatsSpec.vars gs q := hV0
  rw [Tryd.params6] at hA hval
  obtain ⟨v0, vs0, d0, ds0, p0, q0, hargs, rfl, rfl, h0, r0⟩ := trodAll_cons hA
  obtain ⟨v1, vs1, d1, ds1, p1, q1, rfl, rfl, rfl, h1, r1⟩ := trodAll_cons r0
  obtain ⟨v2, vs2, d2, ds2, p2, q2, rfl, rfl, rfl, h2, r2⟩ := trodAll_cons r1
  obtain ⟨rfl, rfl, rfl⟩ := trodAll_nil r2
  obtain rfl : args = #[v0, v1, v2] := by cases args; simp_all
  rw [MakeChecks.laidMetH_plain _ _ _ (by kernel_rfl)] at hL
  obtain ⟨A, SV⟩ := sentVars (rest := []) hL
  have hlen := trodVars_len hV
  obtain ⟨gv1, gv2, gv3, gv4, gv5, gv6, gv7, gv8, rfl⟩ : ∃ gv1 gv2 gv3 gv4 gv5 gv6 gv7 gv8, gs = [gv1, gv2, gv3, gv4, gv5, gv6, gv7, gv8] := by
    match gs, hlen with
    | [gv1, gv2, gv3, gv4, gv5, gv6, gv7, gv8], _ => exact ⟨gv1, gv2, gv3, gv4, gv5, gv6, gv7, gv8, rfl⟩
  have k0 := h0
  have lt0 : ∀ x ∈ p0, x.block < W.heap.size := by obtain ⟨m, hm⟩ := k0; exact DataW.trod_lt m _ _ _ hm
  have k1 := h1
  have lt1 : ∀ x ∈ p1, x.block < W.heap.size := by obtain ⟨m, hm⟩ := k1; exact DataW.trod_lt m _ _ _ hm
  have k2 := h2
  have lt2 : ∀ x ∈ p2, x.block < W.heap.size := by obtain ⟨m, hm⟩ := k2; exact DataW.trod_lt m _ _ _ hm
  obtain ⟨f0, rfl, hf0⟩ := open_field (fs := Tryd.prog.fieldsOf 27) (by kernel_rfl) (by kernel_rfl) Tryd.underlying22 Tryd.underlying23 Tryd.underlying5 Tryd.underlying25 Tryd.underlying24 (by kernel_rfl) (by kernel_rfl) (by kernel_rfl) (by kernel_rfl) (by kernel_rfl) (by kernel_rfl) (hval 0 27 v0 rfl rfl) h0
  obtain ⟨s1, z1, c1, g1, rfl, hz1, hi1, hg1⟩ := open_halves Tryd.underlying28 Tryd.underlying24 (by kernel_rfl) (hval 1 28 v1 rfl rfl) h1
  obtain ⟨s2, z2, c2, g2, rfl, hz2, hi2, hg2⟩ := open_halves Tryd.underlying28 Tryd.underlying24 (by kernel_rfl) (hval 2 28 v2 rfl rfl) h2
  clear hA0 hval0 hV0
  refine (walk W f0 hf0 s1 z1 c1 g1 (by simpa [maxLen] using hz1) hi1 hg1 s2 z2 c2 g2 (by simpa [maxLen] using hz2) hi2 hg2 A SV.sents).mono fun e W' ⟨he, bel⟩ => ?_
  subst he
  exact ⟨_, rfl, _, _, _, [], _, _, hW', trodAll_mk1 (shut_bool Tryd.underlying4 _), (trodAll_cons_mk (Below.trod laidOut (by kernel_rfl) (of_decide_eq_true (by kernel_rfl)) k0 bel lt0) (trodAll_cons_mk (Below.trod laidOut (by kernel_rfl) (of_decide_eq_true (by kernel_rfl)) k1 bel lt1) (trodAll_cons_mk (Below.trod laidOut (by kernel_rfl) (of_decide_eq_true (by kernel_rfl)) k2 bel lt2) trodAll_mk0))), Below.trodVars laidOut bel (by kernel_rfl) hV, bel.frame _, fun h => by cases h⟩

theorem over : Rows.fnExactJoinBeatsRow.holds Tryd.pinned (OpenSpec.ofChange Rows.fnExactJoinBeatsSpec) :=
  OpenClaim.holds_of_wide 6 Tryd.f6 rfl rfl rfl rfl rfl rfl rfl ⟨rfl, rfl, rfl, rfl, rfl⟩ rfl rfl rfl rfl rfl (by kernel_rfl) Tryd.func6 (by kernel_rfl)
    (of_decide_eq_true (by kernel_rfl)) (by unfold Func.isWrapper; first | (rw [if_pos (by decide +kernel)]; kernel_rfl) | (rw [if_neg (by decide +kernel)]; exact ⟨rfl, rfl⟩))
    (fun os started H enc _ => lifted os started H enc)
theorem proved : Rows.FnExactJoinBeatsCardSaid :=
  Claim7.holds_tied_plain_at .later [] [.sentinel, .sentinel, .sentinel, .sentinel, .sentinel, .sentinel, .sentinel, .sentinel] true (true, "0914e1a8d4c6ef4525306dc8f4027847270c55f222ee511d88e75d1d73e992d1") true
    over (fun _ h => by cases h) (by kernel_rfl) (fun _ h => by cases h) fnExactJoinBeats_row_tie rfl ⟨rfl, rfl⟩ (by kernel_rfl) rfl
    (fun f fn hf hfn => by
      obtain rfl : f = 6 := Option.some.inj ((show Tryd.prog.funcNamed "loop.example/g01338/laws.FnExactJoinBeats" = some 6 by kernel_rfl).symm.trans hf) |>.symm
      obtain rfl : fn = Tryd.f6 := (Option.some.inj (Tryd.func6.symm.trans hfn)).symm
      exact ⟨by kernel_rfl, fun j t ht => by
        rw [Tryd.params6] at ht
        have hm : t ∈ [27, 28, 28] := by simpa using Array.mem_of_getElem? ht
        have hall : ([27, 28, 28].all fun u => !Tryd.prog.wantsStandIn u) = true := by kernel_rfl
        exact (show Tryd.prog.wantsStandIn t = false by simpa using List.all_eq_true.1 hall t hm)⟩)
    (by kernel_rfl)
#print axioms proved
end Go.Proofs.YtdjbaajcgipebaaDoor.lawJoinBeats
