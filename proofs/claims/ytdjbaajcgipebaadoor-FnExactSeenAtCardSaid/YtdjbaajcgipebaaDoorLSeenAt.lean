/-
  SeenAt: for all arguments the program answers as the model does: no condition beyond the listed sentinels, which the card ties to the program's text.
-/
import Derived.Test.YtdjbaajcgipebaaDoorSat
import Derived.Test.YtdjbaajcgipebaaDoorLstH
import Derived.Test.YtdjbaajcgipebaaDoorLawh
import Derived.Test.YtdjbaajcgipebaaDoorOpen
import Derived.Test.YtdjbaajcgipebaaDoorCard
import Derived.Test.YtdjbaajcgipebaaDoorTie
import Derived.Test.YtdjbaajcgipebaaDoorCards
import Derived.SevenTiedAt
import Derived.OpenVars
import Derived.ChangeOld
import Derived.Below
namespace Go.Proofs.YtdjbaajcgipebaaDoor.lawSeenAt
open Go Go.ChangeShapes Go.WideShapes Go.ChangeAt Go.RowKit

set_option maxRecDepth 100000 in
set_option maxHeartbeats 16000000 in
theorem walk (w : World) (f : Fd) (hff : f.Wf) (sg : Option Addr) (zg cg : Nat) (g : Nat → Int) (hzg : zg ≤ 2 ^ 63 - 1) (hig : HJ w sg zg g) (hgg : WfH zg g) (x : Int) (wx : (Lit.int .i64 x).wf = true) (y : Int) (wy : (Lit.int .i64 y).wf = true) (A : Nat → Addr) (S0 : Sents w A) :
    Calls Tryd.prog 9 #[.agg (fcells f), .slice sg zg cg, .int .i64 x, .int .i64 y] w fun e w' => e = .returned (.bool true) ∧ Below w.heap.size w w' := by
  have S : Hid (Sents w A) := Lib.hid S0
  clear S0
  obtain ⟨x1, x2⟩ := bounds_i64 wx
  obtain ⟨y1, y2⟩ := bounds_i64 wy
  have Hhig := Lib.hid hig
  have Hhgg := Lib.hid hgg
  clear hig hgg
  by_cases hbg : 1048576 < zg
  · have tg : decide (1048576 < (zg : Int)) = true := decide_eq_true (by omega)
    go_enter Tryd.func9, Tryd.ntmps9
    go_upto_region 1 with (fail)
    obtain ⟨W0, hW, M0⟩ := open1 w (fcells f) 27
    rw [hW]; clear hW
    go_wp2_with (fail)
    go_ret
    exact ⟨rfl, M0.below⟩
  have qg : zg ≤ 2 ^ 40 := by omega
  have tg : decide (1048576 < (zg : Int)) = false := decide_eq_false (by omega)
  obtain ⟨rv0, hrv0⟩ : ∃ res, (satSet f zg g x y) = res := ⟨_, rfl⟩
  have HR0 := Lib.hid hrv0
  clear hrv0
  obtain ⟨rv1, hrv1⟩ : ∃ res, (satCode f zg g x y) = res := ⟨_, rfl⟩
  have HR1 := Lib.hid hrv1
  clear hrv1
  go_enter Tryd.func9, Tryd.ntmps9
  go_upto_region 1 with (fail)
  obtain ⟨W0, hW, M0⟩ := open1 w (fcells f) 27
  rw [hW]; clear hW
  have HM0 := Lib.hid M0.before
  have z0 : w.heap.size ≤ W0.heap.size := M0.below.size
  have ok0_0 : True := trivial
  have ok0_1 : True := trivial
  have ok0_2 : True := trivial
  have ok0_3 : True := trivial
  have ok0_4 : True := trivial
  go_upto_region 4 with (first
    | (clear ok0_0; refine wpList_load_part rfl 27 _ rfl (w.heap.size) 0 rfl (fcells f) _ (M0.at 0 rfl).whole Tryd.underlying27 rfl (by rw [fcells_size]; exact sizeFl) ?_)
    | (clear ok0_1; go_at_call 12; refine (toField _ _).mono ?_; rintro e W1 ⟨rfl, hb2⟩; have M3 := M0.call hb2; have z4 := hb2.size; clear hb2 M0)
    | (clear ok0_2; go_at_call 13; refine (Hto_any zg qg g sg cg _ (Hhig.out.later M3.below)).mono ?_; rintro e W5 ⟨b7, rfl, i13, v14, u15, hb6⟩; have M11 := M3.call hb6; have z12 := hb6.size; have F8 := Lib.hid i13; have F9 := Lib.hid v14; have F10 := Lib.hid u15; clear hb6 i13 v14 u15 M3)
    | (clear ok0_3; go_at_call 32; refine (specSeenAt f hff zg qg g Hhgg.out x y ⟨y1, y2⟩ b7 _ _ F8.out).mono ?_; rintro e W16 ⟨rfl, hb17⟩; rw [HR0.out, HR1.out]; have M18 := M11.call hb17; have z19 := hb17.size; clear hb17 M11 F8 F9 F10)
    | (clear ok0_4; refine wpList_store_row rfl 45 _ _ rfl W16.heap.size (acells .u64 2 rv0) rfl rfl 45 _ ((M18.alloc #[.int .u64 0, .int .u64 0] 45).at 1 rfl) (by rw [acells_size]; exact sizeC) (by rw [acells_size]; rfl) (acells_one _ _ _) ?_))
  have hb21 : Below W16.heap.size W16 ((W16.alloc (.cells #[.int .u64 0, .int .u64 0] 45)).setRow W16.heap.size (acells .u64 2 rv0)) := by
    obtain ⟨W', h, N⟩ := open1 W16 #[.int .u64 0, .int .u64 0] 45
    rw [h]; exact (N.row 0 rfl (acells .u64 2 rv0)).below
  have M22 := (M18.alloc #[.int .u64 0, .int .u64 0] 45).row 1 rfl (acells .u64 2 rv0)
  generalize World.setRow _ _ _ = W20 at M22 hb21 ⊢
  have z23 := hb21.size
  clear hb21 M18 
  go_upto_region 5 with (go_at_call 13; refine (Hto_any zg qg g sg cg _ (Hhig.out.later M22.below)).mono ?_; rintro e W24 ⟨b26, rfl, i32, v33, u34, hb25⟩; have M30 := M22.call hb25; have z31 := hb25.size; have F27 := Lib.hid i32; have F28 := Lib.hid v33; have F29 := Lib.hid u34; clear hb25 i32 v33 u34 M22)
  have ok2_0 : True := trivial
  have ok2_1 : True := trivial
  have ok2_2 : True := trivial
  have ok2_3 : True := trivial
  go_upto_region 6 with (first
    | (clear ok2_0; refine wpList_load_part rfl 27 _ rfl (w.heap.size) 0 rfl (fcells f) _ (M30.at 0 rfl).whole Tryd.underlying27 rfl (by rw [fcells_size]; exact sizeFl) ?_)
    | (clear ok2_1; go_at_call 12; refine (toField _ _).mono ?_; rintro e W35 ⟨rfl, hb36⟩; have M37 := M30.call hb36; have z38 := hb36.size; have F39 := Lib.hid (F27.out.later hb36); have F40 := Lib.hid (F28.out.later hb36); have F41 := Lib.hid (F29.out.later hb36); clear hb36 M30 F27 F28 F29)
    | (clear ok2_2; go_at_call 33; refine (implSeenAt f hff zg qg g Hhgg.out x y ⟨y1, y2⟩ b26 A _ F39.out (S.out.later M37.below)).mono ?_; rintro e W42 ⟨rfl, hb43⟩; rw [HR0.out, HR1.out]; have M44 := M37.call hb43; have z45 := hb43.size; have F46 := Lib.hid (F39.out.later hb43); have F47 := Lib.hid (F40.out.later hb43); have F48 := Lib.hid (F41.out.later hb43); clear hb43 M37 F39 F40 F41)
    | (clear ok2_3; refine wpList_store_row rfl 45 _ _ rfl W42.heap.size (acells .u64 2 rv0) rfl rfl 45 _ ((M44.alloc #[.int .u64 0, .int .u64 0] 45).at 2 rfl) (by rw [acells_size]; exact sizeC) (by rw [acells_size]; rfl) (acells_one _ _ _) ?_))
  have hb50 : Below W42.heap.size W42 ((W42.alloc (.cells #[.int .u64 0, .int .u64 0] 45)).setRow W42.heap.size (acells .u64 2 rv0)) := by
    obtain ⟨W', h, N⟩ := open1 W42 #[.int .u64 0, .int .u64 0] 45
    rw [h]; exact (N.row 0 rfl (acells .u64 2 rv0)).below
  have M51 := (M44.alloc #[.int .u64 0, .int .u64 0] 45).row 2 rfl (acells .u64 2 rv0)
  generalize World.setRow _ _ _ = W49 at M51 hb50 ⊢
  have z52 := hb50.size
  have F53 := Lib.hid (F46.out.later hb50)
  have F54 := Lib.hid (F47.out.later hb50)
  have F55 := Lib.hid (F48.out.later hb50)
  clear hb50 M44 F46 F47 F48
  have ok3_0 : True := trivial
  have ok3_1 : True := trivial
  have ok3_2 : True := trivial
  go_upto_region 8 with (first
    | (clear ok3_0; refine wpList_load_part rfl 45 _ rfl (W42.heap.size) 0 rfl (acells .u64 2 rv0) _ (M51.at 2 rfl).whole Tryd.underlying45 rfl (by rw [acells_size]; exact sizeC) ?_)
    | (clear ok3_1; refine wpList_load_part rfl 45 _ rfl (W16.heap.size) 0 rfl (acells .u64 2 rv0) _ (M51.at 1 rfl).whole Tryd.underlying45 rfl (by rw [acells_size]; exact sizeC) ?_)
    | (clear ok3_2; go_at_call 26; refine (eqCells (rv0) _).mono ?_; rintro e W56 ⟨rfl, hb57⟩; have M58 := M51.call hb57; have z59 := hb57.size; have F60 := Lib.hid (F53.out.later hb57); have F61 := Lib.hid (F54.out.later hb57); have F62 := Lib.hid (F55.out.later hb57); clear hb57 M51 F53 F54 F55))
  have ok4_0 : True := trivial
  have ok4_1 : True := trivial
  go_wp2_with (first
    | (clear ok4_0; go_at_call 13; refine (Hto_any zg qg g sg cg _ (Hhig.out.later M58.below)).mono ?_; rintro e W63 ⟨b65, rfl, i74, v75, u76, hb64⟩; have M69 := M58.call hb64; have z70 := hb64.size; have F71 := Lib.hid (F60.out.later hb64); have F72 := Lib.hid (F61.out.later hb64); have F73 := Lib.hid (F62.out.later hb64); have F66 := Lib.hid i74; have F67 := Lib.hid v75; have F68 := Lib.hid u76; clear hb64 i74 v75 u76 M58 F60 F61 F62)
    | (clear ok4_1; go_at_call 15; refine (Heq_J _ qg _ _ _ _ _ _ F72.out.j F67.out.j).mono ?_; rintro e W77 ⟨rfl, hb78⟩; have M79 := M69.call hb78; have z80 := hb78.size; clear hb78 M69 F71 F72 F73 F66 F67 F68))
  go_ret
  exact ⟨rfl, M79.below⟩
theorem trodVars_len {H : Type} {enc : TypeId × Value → H} {P : Program} {w : World} {sp : Nat → Bool} : ∀ {ns : List String} {gs : List (DataW H)} {ps : List MemPlace}, DataW.TrodVars enc P w sp ns gs ps → gs.length = ns.length
  | [], [], _, _ => rfl
  | [], _ :: _, _, h => h.elim
  | _ :: _, [], _, h => h.elim
  | _ :: _, _ :: _, _, ⟨_, _, _, _, _, _, _, _, _, _, h, _⟩ => congrArg (· + 1) (trodVars_len h)
theorem door_met (os : Os) (args : Array Value) : laidMetH Tryd.prog Rows.fnExactSeenAtRow.laid ((World.doorLaid Tryd.prog 400 os).forCall (fun _ _ => 0) ⟨#[], args, []⟩).memory :=
  laidMetH_of_parts3 (fuel := 8) (laidMet_of_run' 8 (by kernel_rfl) (by kernel_rfl)) (by kernel_rfl) (by kernel_rfl)
set_option maxRecDepth 100000 in
theorem lifted (os : Os) (started : os.Started) (H : Type) (enc : TypeId × Value → H) :
    ReturnsInHanded {} Tryd.checked os 9 .any (fun w args => (Rows.fnExactSeenAtSpec.pre enc Tryd.prog Tryd.f9 Rows.fnExactSeenAtRow.domain false w args ∧ laidMetH Tryd.prog Rows.fnExactSeenAtRow.laid w) ∧ sizedMet enc Tryd.prog Tryd.f9 (OpenSpec.ofChange Rows.fnExactSeenAtSpec) false w args) (Rows.fnExactSeenAtSpec.post enc Tryd.prog Tryd.f9 false true false false) := by
  refine returnsInHanded_of_change_and (C := Tryd.checked) (X := fun w _ => laidMetH Tryd.prog Rows.fnExactSeenAtRow.laid w) (fun _ _ _ hh h => h.of_heap hh) own started (by kernel_rfl) Tryd.func9
    (ChangeSpec.witness_shaped (enc := enc) (C := Tryd.checked) (os := os) (X := fun w _ => laidMetH Tryd.prog Rows.fnExactSeenAtRow.laid w) false (World.doorLaid Tryd.prog 400 os) #[.agg (fcells Fd.zero), .slice none 0 0, .int .i64 0, .int .i64 0] 8 rfl (World.shaped_of_RefB (by kernel_rfl) (by kernel_rfl)) (by kernel_rfl) (by kernel_rfl) (by kernel_rfl) (door_met os _)) ?_
  intro W base args ds gs before hval0 hW _ _ hL _
  have hval : ∀ (j : Nat) t v, Tryd.f9.params[j]? = some t → args[j]? = some v → Value.okWide Tryd.prog W .any base t v := hval0
  have hW' := hW
  obtain ⟨p, q, hA0, hV0, rfl, hfz, hnd⟩ := hW
  have hA : DataW.TrodAll enc Tryd.prog W 0 (fun _ => true) true Tryd.f9.params.toList args.toList ds p := hA0
  have hV : DataW.TrodVars enc Tryd.prog W (fun _ => true) Rows.fnExactSeenAtSpec.vars gs q := hV0
  rw [Tryd.params9] at hA hval
  obtain ⟨v0, vs0, d0, ds0, p0, q0, hargs, rfl, rfl, h0, r0⟩ := trodAll_cons hA
  obtain ⟨v1, vs1, d1, ds1, p1, q1, rfl, rfl, rfl, h1, r1⟩ := trodAll_cons r0
  obtain ⟨v2, vs2, d2, ds2, p2, q2, rfl, rfl, rfl, h2, r2⟩ := trodAll_cons r1
  obtain ⟨v3, vs3, d3, ds3, p3, q3, rfl, rfl, rfl, h3, r3⟩ := trodAll_cons r2
  obtain ⟨rfl, rfl, rfl⟩ := trodAll_nil r3
  obtain rfl : args = #[v0, v1, v2, v3] := by cases args; simp_all
  rw [MakeChecks.laidMetH_plain _ _ _ (by kernel_rfl)] at hL
  obtain ⟨A, SV⟩ := sentVars (rest := []) hL
  have hlen := trodVars_len hV
  obtain ⟨gv1, gv2, gv3, gv4, gv5, gv6, gv7, gv8, rfl⟩ : ∃ gv1 gv2 gv3 gv4 gv5 gv6 gv7 gv8, gs = [gv1, gv2, gv3, gv4, gv5, gv6, gv7, gv8] := by
    match gs, hlen with
    | [gv1, gv2, gv3, gv4, gv5, gv6, gv7, gv8], _ => exact ⟨gv1, gv2, gv3, gv4, gv5, gv6, gv7, gv8, rfl⟩
  have k0 := h0
  have lt0 : ∀ x ∈ p0, x.block < W.heap.size := by obtain ⟨m, hm⟩ := k0; exact DataW.trod_lt m _ _ _ hm
  have k1 := h1
  have lt1 : ∀ x ∈ p1, x.block < W.heap.size := by obtain ⟨m, hm⟩ := k1; exact DataW.trod_lt m _ _ _ hm
  have k2 := h2
  have lt2 : ∀ x ∈ p2, x.block < W.heap.size := by obtain ⟨m, hm⟩ := k2; exact DataW.trod_lt m _ _ _ hm
  have k3 := h3
  have lt3 : ∀ x ∈ p3, x.block < W.heap.size := by obtain ⟨m, hm⟩ := k3; exact DataW.trod_lt m _ _ _ hm
  obtain ⟨f0, rfl, hf0⟩ := open_field (fs := Tryd.prog.fieldsOf 27) (by kernel_rfl) (by kernel_rfl) Tryd.underlying22 Tryd.underlying23 Tryd.underlying5 Tryd.underlying25 Tryd.underlying24 (by kernel_rfl) (by kernel_rfl) (by kernel_rfl) (by kernel_rfl) (by kernel_rfl) (by kernel_rfl) (hval 0 27 v0 rfl rfl) h0
  obtain ⟨s1, z1, c1, g1, rfl, hz1, hi1, hg1⟩ := open_halves Tryd.underlying28 Tryd.underlying24 (by kernel_rfl) (hval 1 28 v1 rfl rfl) h1
  obtain ⟨n2, rfl, rfl, rfl, wn2⟩ := open_int Tryd.underlying2 (hval 2 2 v2 rfl rfl) h2
  obtain ⟨n3, rfl, rfl, rfl, wn3⟩ := open_int Tryd.underlying2 (hval 3 2 v3 rfl rfl) h3
  clear hA0 hval0 hV0
  refine (walk W f0 hf0 s1 z1 c1 g1 (by simpa [maxLen] using hz1) hi1 hg1 n2 wn2 n3 wn3 A SV.sents).mono fun e W' ⟨he, bel⟩ => ?_
  subst he
  exact ⟨_, rfl, _, _, _, [], _, _, hW', trodAll_mk1 (shut_bool Tryd.underlying4 _), (trodAll_cons_mk (Below.trod laidOut (by kernel_rfl) (of_decide_eq_true (by kernel_rfl)) k0 bel lt0) (trodAll_cons_mk (Below.trod laidOut (by kernel_rfl) (of_decide_eq_true (by kernel_rfl)) k1 bel lt1) (trodAll_cons_mk (Below.trod laidOut (by kernel_rfl) (of_decide_eq_true (by kernel_rfl)) k2 bel lt2) (trodAll_cons_mk (Below.trod laidOut (by kernel_rfl) (of_decide_eq_true (by kernel_rfl)) k3 bel lt3) trodAll_mk0)))), Below.trodVars laidOut bel (by kernel_rfl) hV, bel.frame _, fun h => by cases h⟩

theorem over : Rows.fnExactSeenAtRow.holds Tryd.pinned (OpenSpec.ofChange Rows.fnExactSeenAtSpec) :=
  OpenClaim.holds_of_wide 9 Tryd.f9 rfl rfl rfl rfl rfl rfl rfl ⟨rfl, rfl, rfl, rfl, rfl⟩ rfl rfl rfl rfl rfl (by kernel_rfl) Tryd.func9 (by kernel_rfl)
    (of_decide_eq_true (by kernel_rfl)) (by unfold Func.isWrapper; first | (rw [if_pos (by decide +kernel)]; kernel_rfl) | (rw [if_neg (by decide +kernel)]; exact ⟨rfl, rfl⟩))
    (fun os started H enc _ => lifted os started H enc)
theorem proved : Rows.FnExactSeenAtCardSaid :=
  Claim7.holds_tied_plain_at .later [] [.sentinel, .sentinel, .sentinel, .sentinel, .sentinel, .sentinel, .sentinel, .sentinel] true (true, "0914e1a8d4c6ef4525306dc8f4027847270c55f222ee511d88e75d1d73e992d1") true
    over (fun _ h => by cases h) (by kernel_rfl) (fun _ h => by cases h) fnExactSeenAt_row_tie rfl ⟨rfl, rfl⟩ (by kernel_rfl) rfl
    (fun f fn hf hfn => by
      obtain rfl : f = 9 := Option.some.inj ((show Tryd.prog.funcNamed "loop.example/g01338/laws.FnExactSeenAt" = some 9 by kernel_rfl).symm.trans hf) |>.symm
      obtain rfl : fn = Tryd.f9 := (Option.some.inj (Tryd.func9.symm.trans hfn)).symm
      exact ⟨by kernel_rfl, fun j t ht => by
        rw [Tryd.params9] at ht
        have hm : t ∈ [27, 28, 2, 2] := by simpa using Array.mem_of_getElem? ht
        have hall : ([27, 28, 2, 2].all fun u => !Tryd.prog.wantsStandIn u) = true := by kernel_rfl
        exact (show Tryd.prog.wantsStandIn t = false by simpa using List.all_eq_true.1 hall t hm)⟩)
    (by kernel_rfl)
#print axioms proved
end Go.Proofs.YtdjbaajcgipebaaDoor.lawSeenAt
