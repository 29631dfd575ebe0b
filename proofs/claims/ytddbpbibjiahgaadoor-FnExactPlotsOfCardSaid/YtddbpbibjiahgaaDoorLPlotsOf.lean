/-
  PlotsOf: for all arguments the program answers as the model does, and its memory is its own: no condition beyond the listed sentinels, which the card ties to the program's text.
-/
import Derived.Test.YtddbpbibjiahgaaDoorPltO
import Derived.Test.YtddbpbibjiahgaaDoorLstP
import Derived.Test.YtddbpbibjiahgaaDoorLawh
import Derived.Test.YtddbpbibjiahgaaDoorCoreB
import Derived.Test.YtddbpbibjiahgaaDoorCard
import Derived.Test.YtddbpbibjiahgaaDoorTie
import Derived.Test.YtddbpbibjiahgaaDoorCards
import Derived.SevenTiedAt
import Derived.OpenVars
import Derived.ChangeOld
import Derived.Below
namespace Go.Proofs.YtddbpbibjiahgaaDoor.lawPlotsOf
open Go Go.ChangeShapes Go.WideShapes Go.ChangeAt Go.RowKit

set_option maxRecDepth 100000 in
set_option maxHeartbeats 16000000 in
theorem walk (w : World) (f : Fd) (hff : f.Wf) (x : Int) (wx : (Lit.int .i64 x).wf = true) (y : Int) (wy : (Lit.int .i64 y).wf = true) (d : Int) (wd : (Lit.int .i64 d).wf = true) (A : Nat → Addr) (S0 : Sents w A) :
    Calls Tryd.prog 3 #[.agg (fcells f), .int .i64 x, .int .i64 y, .int .i64 d] w fun e w' => e = .returned (.bool true) ∧ Below w.heap.size w w' := by
  have S : Hid (Sents w A) := Lib.hid S0
  clear S0
  obtain ⟨x1, x2⟩ := bounds_i64 wx
  obtain ⟨y1, y2⟩ := bounds_i64 wy
  obtain ⟨d1, d2⟩ := bounds_i64 wd
  have hrb0 : (plN f x y d) ≤ 2 ^ 40 := plN_le f x y d
  obtain ⟨rn0, hrn0⟩ : ∃ res, (plN f x y d) = res := ⟨_, rfl⟩
  rw [hrn0] at hrb0
  have HR0 := Lib.hid hrn0
  clear hrn0
  obtain ⟨rv1, hrv1⟩ : ∃ res, (plCode f x y d) = res := ⟨_, rfl⟩
  have HR1 := Lib.hid hrv1
  clear hrv1
  go_enter Tryd.func3, Tryd.ntmps3
  go_upto_region 1 with (fail)
  obtain ⟨W0, hW, M0⟩ := open1 w (fcells f) 27
  rw [hW]; clear hW
  have HM0 := Lib.hid M0.before
  have z0 : w.heap.size ≤ W0.heap.size := M0.below.size
  have ok0_0 : True := trivial
  have ok0_1 : True := trivial
  have ok0_2 : True := trivial
  go_upto_region 2 with (first
    | (clear ok0_0; refine wpList_load_part rfl 27 _ rfl (w.heap.size) 0 rfl (fcells f) _ (M0.at 0 rfl).whole Tryd.underlying27 rfl (by rw [fcells_size]; exact sizeFl) ?_)
    | (clear ok0_1; go_at_call 8; refine (toField _ _).mono ?_; rintro e W1 ⟨rfl, hb2⟩; have M3 := M0.call hb2; have z4 := hb2.size; clear hb2 M0)
    | (clear ok0_2; go_at_call 7; refine (specPlotsOf f hff x y d _).mono ?_; rintro e W5 ⟨p9, c10, rfl, v11, u12, hb6⟩; rw [HR0.out, HR1.out]; rw [HR0.out] at v11 u12; have F13 := Lib.hid v11; have F14 := Lib.hid u12; have M7 := M3.call hb6; have z8 := hb6.size; clear hb6 v11 u12 M3))
  have ok1_0 : True := trivial
  have ok1_1 : True := trivial
  have ok1_2 : True := trivial
  go_upto_region 3 with (first
    | (clear ok1_0; refine wpList_load_part rfl 27 _ rfl (w.heap.size) 0 rfl (fcells f) _ (M7.at 0 rfl).whole Tryd.underlying27 rfl (by rw [fcells_size]; exact sizeFl) ?_)
    | (clear ok1_1; go_at_call 8; refine (toField _ _).mono ?_; rintro e W15 ⟨rfl, hb16⟩; have M17 := M7.call hb16; have z18 := hb16.size; have F19 := Lib.hid (F13.out.later hb16); have F20 := Lib.hid (F14.out.later hb16); clear hb16 M7 F13 F14)
    | (clear ok1_2; go_at_call 9; refine (implPlotsOf f hff x ⟨x1, x2⟩ y ⟨y1, y2⟩ d ⟨d1, d2⟩ A _ (S.out.later M17.below)).mono ?_; rintro e W21 ⟨p27, c28, rfl, v29, u30, hb22⟩; rw [HR0.out, HR1.out]; rw [HR0.out] at v29 u30; have F31 := Lib.hid v29; have F32 := Lib.hid u30; have M23 := M17.call hb22; have z24 := hb22.size; have F25 := Lib.hid (F19.out.later hb22); have F26 := Lib.hid (F20.out.later hb22); clear hb22 v29 u30 M17 F19 F20))
  go_upto_region 6 with (go_at_call 10; refine (Peq_J _ hrb0 _ _ _ _ _ _ F31.out.j F25.out.j).mono ?_; rintro e W33 ⟨rfl, hb34⟩; have M35 := M23.call hb34; have z36 := hb34.size; have F37 := Lib.hid (F25.out.later hb34); have F38 := Lib.hid (F26.out.later hb34); have F39 := Lib.hid (F31.out.later hb34); have F40 := Lib.hid (F32.out.later hb34); clear hb34 M23 F25 F26 F31 F32)
  go_upto_region 8 with (go_at_call 11; refine (Pmark_any _ hrb0 (1) (by omega) _ _ _ F40.out).mono ?_; rintro e W41 ⟨rfl, hm43, v44⟩; have M46 := PMem.marked M35 hm43 (by omega) (fun i e h => Or.inl (Nat.lt_of_lt_of_le (HM0.out i e h) (by omega))); have z47 := hm43.size; have F48 := Lib.hid (F37.out.marked hm43 (by omega)); have F49 := Lib.hid (F38.out.marked hm43 (by omega)); have F45 := Lib.hid v44; clear hm43 v44 M35 F37 F38 F39 F40)
  go_upto_region 13 with (go_at_call 12; refine (Pheld_any _ hrb0 (1) (by omega) _ _ _ F45.out).mono ?_; rintro e W50 ⟨rfl, hb51⟩; have M52 := M46.call hb51; have z53 := hb51.size; have F54 := Lib.hid (F48.out.later hb51); have F55 := Lib.hid (F49.out.later hb51); have F56 := Lib.hid (F45.out.later hb51); clear hb51 M46 F48 F49 F45)
  have ok5_0 : True := trivial
  have ok5_1 : True := trivial
  have ok5_2 : True := trivial
  go_upto_region 14 with (first
    | (clear ok5_0; refine wpList_load_part rfl 27 _ rfl (w.heap.size) 0 rfl (fcells f) _ (M52.at 0 rfl).whole Tryd.underlying27 rfl (by rw [fcells_size]; exact sizeFl) ?_)
    | (clear ok5_1; go_at_call 8; refine (toField _ _).mono ?_; rintro e W57 ⟨rfl, hb58⟩; have M59 := M52.call hb58; have z60 := hb58.size; have F61 := Lib.hid (F54.out.later hb58); have F62 := Lib.hid (F55.out.later hb58); have F63 := Lib.hid (F56.out.later hb58); clear hb58 M52 F54 F55 F56)
    | (clear ok5_2; go_at_call 9; refine (implPlotsOf f hff x ⟨x1, x2⟩ y ⟨y1, y2⟩ d ⟨d1, d2⟩ A _ (S.out.later M59.below)).mono ?_; rintro e W64 ⟨p71, c72, rfl, v73, u74, hb65⟩; rw [HR0.out, HR1.out]; rw [HR0.out] at v73 u74; have F75 := Lib.hid v73; have F76 := Lib.hid u74; have M66 := M59.call hb65; have z67 := hb65.size; have F68 := Lib.hid (F61.out.later hb65); have F69 := Lib.hid (F62.out.later hb65); have F70 := Lib.hid (F63.out.later hb65); clear hb65 v73 u74 M59 F61 F62 F63))
  go_upto_region 17 with (go_at_call 10; refine (Peq_J _ hrb0 _ _ _ _ _ _ F75.out.j F68.out.j).mono ?_; rintro e W77 ⟨rfl, hb78⟩; have M79 := M66.call hb78; have z80 := hb78.size; have F81 := Lib.hid (F70.out.later hb78); clear hb78 M66 F68 F69 F70 F75 F76)
  go_wp2_with (go_at_call 12; refine (Pheld_any _ hrb0 (1) (by omega) _ _ _ F81.out).mono ?_; rintro e W82 ⟨rfl, hb83⟩; have M84 := M79.call hb83; have z85 := hb83.size; clear hb83 M79 F81)
  go_ret
  exact ⟨rfl, M84.below⟩
theorem trodVars_len {H : Type} {enc : TypeId × Value → H} {P : Program} {w : World} {sp : Nat → Bool} : ∀ {ns : List String} {gs : List (DataW H)} {ps : List MemPlace}, DataW.TrodVars enc P w sp ns gs ps → gs.length = ns.length
  | [], [], _, _ => rfl
  | [], _ :: _, _, h => h.elim
  | _ :: _, [], _, h => h.elim
  | _ :: _, _ :: _, _, ⟨_, _, _, _, _, _, _, _, _, _, h, _⟩ => congrArg (· + 1) (trodVars_len h)
theorem door_met (os : Os) (args : Array Value) : laidMetH Tryd.prog Rows.fnExactPlotsOfRow.laid ((World.doorLaid Tryd.prog 400 os).forCall (fun _ _ => 0) ⟨#[], args, []⟩).memory :=
  laidMetH_of_parts3 (fuel := 8) (laidMet_of_run' 8 (by kernel_rfl) (by kernel_rfl)) (by kernel_rfl) (by kernel_rfl)
set_option maxRecDepth 100000 in
theorem lifted (os : Os) (started : os.Started) (H : Type) (enc : TypeId × Value → H) :
    ReturnsInHanded {} Tryd.checked os 3 .any (fun w args => (Rows.fnExactPlotsOfSpec.pre enc Tryd.prog Tryd.f3 Rows.fnExactPlotsOfRow.domain false w args ∧ laidMetH Tryd.prog Rows.fnExactPlotsOfRow.laid w) ∧ sizedMet enc Tryd.prog Tryd.f3 (OpenSpec.ofChange Rows.fnExactPlotsOfSpec) false w args) (Rows.fnExactPlotsOfSpec.post enc Tryd.prog Tryd.f3 false true false false) := by
  refine returnsInHanded_of_change_and (C := Tryd.checked) (X := fun w _ => laidMetH Tryd.prog Rows.fnExactPlotsOfRow.laid w) (fun _ _ _ hh h => h.of_heap hh) own started (by kernel_rfl) Tryd.func3
    (ChangeSpec.witness_shaped (enc := enc) (C := Tryd.checked) (os := os) (X := fun w _ => laidMetH Tryd.prog Rows.fnExactPlotsOfRow.laid w) false (World.doorLaid Tryd.prog 400 os) #[.agg (fcells Fd.zero), .int .i64 0, .int .i64 0, .int .i64 0] 8 rfl (World.shaped_of_RefB (by kernel_rfl) (by kernel_rfl)) (by kernel_rfl) (by kernel_rfl) (by kernel_rfl) (door_met os _)) ?_
  intro W base args ds gs before hval0 hW _ _ hL _
  have hval : ∀ (j : Nat) t v, Tryd.f3.params[j]? = some t → args[j]? = some v → Value.okWide Tryd.prog W .any base t v := hval0
  have hW' := hW
  obtain ⟨p, q, hA0, hV0, rfl, hfz, hnd⟩ := hW
  have hA : DataW.TrodAll enc Tryd.prog W 0 (fun _ => true) true Tryd.f3.params.toList args.toList ds p := hA0
  have hV : DataW.TrodVars enc Tryd.prog W (fun _ => true) Rows.fnExactPlotsOfSpec.vars gs q := hV0
  rw [Tryd.params3] at hA hval
  obtain ⟨v0, vs0, d0, ds0, p0, q0, hargs, rfl, rfl, h0, r0⟩ := trodAll_cons hA
  obtain ⟨v1, vs1, d1, ds1, p1, q1, rfl, rfl, rfl, h1, r1⟩ := trodAll_cons r0
  obtain ⟨v2, vs2, d2, ds2, p2, q2, rfl, rfl, rfl, h2, r2⟩ := trodAll_cons r1
  obtain ⟨v3, vs3, d3, ds3, p3, q3, rfl, rfl, rfl, h3, r3⟩ := trodAll_cons r2
  obtain ⟨rfl, rfl, rfl⟩ := trodAll_nil r3
  obtain rfl : args = #[v0, v1, v2, v3] := by cases args; simp_all
  rw [MakeChecks.laidMetH_plain _ _ _ (by kernel_rfl)] at hL
  obtain ⟨A, SV⟩ := sentVars (rest := []) hL
  have hlen := trodVars_len hV
  obtain ⟨gv1, gv2, gv3, gv4, gv5, gv6, gv7, gv8, rfl⟩ : ∃ gv1 gv2 gv3 gv4 gv5 gv6 gv7 gv8, gs = [gv1, gv2, gv3, gv4, gv5, gv6, gv7, gv8] := by
    match gs, hlen with
    | [gv1, gv2, gv3, gv4, gv5, gv6, gv7, gv8], _ => exact ⟨gv1, gv2, gv3, gv4, gv5, gv6, gv7, gv8, rfl⟩
  have k0 := h0
  have lt0 : ∀ x ∈ p0, x.block < W.heap.size := by obtain ⟨m, hm⟩ := k0; exact DataW.trod_lt m _ _ _ hm
  have k1 := h1
  have lt1 : ∀ x ∈ p1, x.block < W.heap.size := by obtain ⟨m, hm⟩ := k1; exact DataW.trod_lt m _ _ _ hm
  have k2 := h2
  have lt2 : ∀ x ∈ p2, x.block < W.heap.size := by obtain ⟨m, hm⟩ := k2; exact DataW.trod_lt m _ _ _ hm
  have k3 := h3
  have lt3 : ∀ x ∈ p3, x.block < W.heap.size := by obtain ⟨m, hm⟩ := k3; exact DataW.trod_lt m _ _ _ hm
  obtain ⟨f0, rfl, hf0⟩ := open_field (fs := Tryd.prog.fieldsOf 27) (by kernel_rfl) (by kernel_rfl) Tryd.underlying22 Tryd.underlying23 Tryd.underlying5 Tryd.underlying25 Tryd.underlying24 (by kernel_rfl) (by kernel_rfl) (by kernel_rfl) (by kernel_rfl) (by kernel_rfl) (by kernel_rfl) (hval 0 27 v0 rfl rfl) h0
  obtain ⟨n1, rfl, rfl, rfl, wn1⟩ := open_int Tryd.underlying2 (hval 1 2 v1 rfl rfl) h1
  obtain ⟨n2, rfl, rfl, rfl, wn2⟩ := open_int Tryd.underlying2 (hval 2 2 v2 rfl rfl) h2
  obtain ⟨n3, rfl, rfl, rfl, wn3⟩ := open_int Tryd.underlying2 (hval 3 2 v3 rfl rfl) h3
  clear hA0 hval0 hV0
  refine (walk W f0 hf0 n1 wn1 n2 wn2 n3 wn3 A SV.sents).mono fun e W' ⟨he, bel⟩ => ?_
  subst he
  exact ⟨_, rfl, _, _, _, [], _, _, hW', trodAll_mk1 (shut_bool Tryd.underlying4 _), (trodAll_cons_mk (Below.trod laidOut (by kernel_rfl) (of_decide_eq_true (by kernel_rfl)) k0 bel lt0) (trodAll_cons_mk (Below.trod laidOut (by kernel_rfl) (of_decide_eq_true (by kernel_rfl)) k1 bel lt1) (trodAll_cons_mk (Below.trod laidOut (by kernel_rfl) (of_decide_eq_true (by kernel_rfl)) k2 bel lt2) (trodAll_cons_mk (Below.trod laidOut (by kernel_rfl) (of_decide_eq_true (by kernel_rfl)) k3 bel lt3) trodAll_mk0)))), Below.trodVars laidOut bel (by kernel_rfl) hV, bel.frame _, fun h => by cases h⟩

theorem over : Rows.fnExactPlotsOfRow.holds Tryd.pinned (OpenSpec.ofChange Rows.fnExactPlotsOfSpec) :=
  OpenClaim.holds_of_wide 3 Tryd.f3 rfl rfl rfl rfl rfl rfl rfl ⟨rfl, rfl, rfl, rfl, rfl⟩ rfl rfl rfl rfl rfl (by kernel_rfl) Tryd.func3 (by kernel_rfl)
    (of_decide_eq_true (by kernel_rfl)) (by unfold Func.isWrapper; first | (rw [if_pos (by decide +kernel)]; kernel_rfl) | (rw [if_neg (by decide +kernel)]; exact ⟨rfl, rfl⟩))
    (fun os started H enc _ => lifted os started H enc)
theorem proved : Rows.FnExactPlotsOfCardSaid :=
  Claim7.holds_tied_plain_at .later [] [.sentinel, .sentinel, .sentinel, .sentinel, .sentinel, .sentinel, .sentinel, .sentinel] true (true, "3288678b7f8e604569883c7246acc0e69fd9e5eba04ee01338f4b18a19c8b655") true
    over (fun _ h => by cases h) (by kernel_rfl) (fun _ h => by cases h) fnExactPlotsOf_row_tie rfl ⟨rfl, rfl⟩ (by kernel_rfl) rfl
    (fun f fn hf hfn => by
      obtain rfl : f = 3 := Option.some.inj ((show Tryd.prog.funcNamed "loop.example/g01338/laws.FnExactPlotsOf" = some 3 by kernel_rfl).symm.trans hf) |>.symm
      obtain rfl : fn = Tryd.f3 := (Option.some.inj (Tryd.func3.symm.trans hfn)).symm
      exact ⟨by kernel_rfl, fun j t ht => by
        rw [Tryd.params3] at ht
        have hm : t ∈ [27, 2, 2, 2] := by simpa using Array.mem_of_getElem? ht
        have hall : ([27, 2, 2, 2].all fun u => !Tryd.prog.wantsStandIn u) = true := by kernel_rfl
        exact (show Tryd.prog.wantsStandIn t = false by simpa using List.all_eq_true.1 hall t hm)⟩)
    (by kernel_rfl)
#print axioms proved
end Go.Proofs.YtddbpbibjiahgaaDoor.lawPlotsOf
