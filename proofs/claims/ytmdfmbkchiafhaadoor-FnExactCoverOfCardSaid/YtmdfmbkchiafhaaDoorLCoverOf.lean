/-
  CoverOf: for all arguments the program answers as the model does: no condition beyond the listed sentinels, which the card ties to the program's text.
-/
import Derived.Test.YtmdfmbkchiafhaaDoorCoO
import Derived.Test.YtmdfmbkchiafhaaDoorLawh
import Derived.Test.YtmdfmbkchiafhaaDoorCoreB
import Derived.Test.YtmdfmbkchiafhaaDoorCard
import Derived.Test.YtmdfmbkchiafhaaDoorTie
import Derived.Test.YtmdfmbkchiafhaaDoorCards
import Derived.SevenTiedAt
import Derived.OpenVars
import Derived.ChangeOld
import Derived.Below
namespace Go.Proofs.YtmdfmbkchiafhaaDoor.lawCoverOf
open Go Go.ChangeShapes Go.WideShapes Go.ChangeAt Go.RowKit

set_option maxRecDepth 100000 in
set_option maxHeartbeats 16000000 in
theorem walk (w : World) (f : Fd) (hff : f.Wf) (x : Int) (wx : (Lit.int .i64 x).wf = true) (y : Int) (wy : (Lit.int .i64 y).wf = true) (d : Int) (wd : (Lit.int .i64 d).wf = true) (A : Nat → Addr) (S0 : Sents w A) :
    Calls Tryd.prog 6 #[.agg (fcells f), .int .i64 x, .int .i64 y, .int .i64 d] w fun e w' => e = .returned (.bool true) ∧ Below w.heap.size w w' := by
  have S : Hid (Sents w A) := Lib.hid S0
  clear S0
  obtain ⟨x1, x2⟩ := bounds_i64 wx
  obtain ⟨y1, y2⟩ := bounds_i64 wy
  obtain ⟨d1, d2⟩ := bounds_i64 wd
  obtain ⟨rv0, hrv0⟩ : ∃ res, (coVal f x y d) = res := ⟨_, rfl⟩
  have HR0 := Lib.hid hrv0
  clear hrv0
  obtain ⟨rv1, hrv1⟩ : ∃ res, (coCode f x y d) = res := ⟨_, rfl⟩
  have HR1 := Lib.hid hrv1
  clear hrv1
  go_enter Tryd.func6, Tryd.ntmps6
  go_upto_region 1 with (fail)
  obtain ⟨W0, hW, M0⟩ := open1 w (fcells f) 27
  rw [hW]; clear hW
  have HM0 := Lib.hid M0.before
  have z0 : w.heap.size ≤ W0.heap.size := M0.below.size
  have ok0_0 : True := trivial
  have ok0_1 : True := trivial
  have ok0_2 : True := trivial
  have ok0_3 : True := trivial
  go_upto_region 2 with (first
    | (clear ok0_0; refine wpList_load_part rfl 27 _ rfl (w.heap.size) 0 rfl (fcells f) _ (M0.at 0 rfl).whole Tryd.underlying27 rfl (by rw [fcells_size]; exact sizeFl) ?_)
    | (clear ok0_1; go_at_call 11; refine (toField _ _).mono ?_; rintro e W1 ⟨rfl, hb2⟩; have M3 := M0.call hb2; have z4 := hb2.size; clear hb2 M0)
    | (clear ok0_2; go_at_call 25; refine (specCoverOf f hff x y d _).mono ?_; rintro e W5 ⟨rfl, hb6⟩; rw [HR0.out, HR1.out]; have M7 := M3.call hb6; have z8 := hb6.size; clear hb6 M3)
    | (clear ok0_3; refine wpList_store_row rfl 38 _ _ rfl W5.heap.size (acells .u64 2 rv0) rfl rfl 38 _ ((M7.alloc #[.int .u64 0, .int .u64 0] 38).at 1 rfl) (by rw [acells_size]; exact sizeC) (by rw [acells_size]; rfl) (acells_one _ _ _) ?_))
  have hb10 : Below W5.heap.size W5 ((W5.alloc (.cells #[.int .u64 0, .int .u64 0] 38)).setRow W5.heap.size (acells .u64 2 rv0)) := by
    obtain ⟨W', h, N⟩ := open1 W5 #[.int .u64 0, .int .u64 0] 38
    rw [h]; exact (N.row 0 rfl (acells .u64 2 rv0)).below
  have M11 := (M7.alloc #[.int .u64 0, .int .u64 0] 38).row 1 rfl (acells .u64 2 rv0)
  generalize World.setRow _ _ _ = W9 at M11 hb10 ⊢
  have z12 := hb10.size
  clear hb10 M7 
  have ok1_0 : True := trivial
  have ok1_1 : True := trivial
  have ok1_2 : True := trivial
  have ok1_3 : True := trivial
  go_upto_region 3 with (first
    | (clear ok1_0; refine wpList_load_part rfl 27 _ rfl (w.heap.size) 0 rfl (fcells f) _ (M11.at 0 rfl).whole Tryd.underlying27 rfl (by rw [fcells_size]; exact sizeFl) ?_)
    | (clear ok1_1; go_at_call 11; refine (toField _ _).mono ?_; rintro e W13 ⟨rfl, hb14⟩; have M15 := M11.call hb14; have z16 := hb14.size; clear hb14 M11)
    | (clear ok1_2; go_at_call 26; refine (implCoverOf f hff x ⟨x1, x2⟩ y d A _ (S.out.later M15.below)).mono ?_; rintro e W17 ⟨rfl, hb18⟩; rw [HR0.out, HR1.out]; have M19 := M15.call hb18; have z20 := hb18.size; clear hb18 M15)
    | (clear ok1_3; refine wpList_store_row rfl 38 _ _ rfl W17.heap.size (acells .u64 2 rv0) rfl rfl 38 _ ((M19.alloc #[.int .u64 0, .int .u64 0] 38).at 2 rfl) (by rw [acells_size]; exact sizeC) (by rw [acells_size]; rfl) (acells_one _ _ _) ?_))
  have hb22 : Below W17.heap.size W17 ((W17.alloc (.cells #[.int .u64 0, .int .u64 0] 38)).setRow W17.heap.size (acells .u64 2 rv0)) := by
    obtain ⟨W', h, N⟩ := open1 W17 #[.int .u64 0, .int .u64 0] 38
    rw [h]; exact (N.row 0 rfl (acells .u64 2 rv0)).below
  have M23 := (M19.alloc #[.int .u64 0, .int .u64 0] 38).row 2 rfl (acells .u64 2 rv0)
  generalize World.setRow _ _ _ = W21 at M23 hb22 ⊢
  have z24 := hb22.size
  clear hb22 M19 
  have ok2_0 : True := trivial
  have ok2_1 : True := trivial
  have ok2_2 : True := trivial
  go_wp2_with (first
    | (clear ok2_0; refine wpList_load_part rfl 38 _ rfl (W17.heap.size) 0 rfl (acells .u64 2 rv0) _ (M23.at 2 rfl).whole Tryd.underlying38 rfl (by rw [acells_size]; exact sizeC) ?_)
    | (clear ok2_1; refine wpList_load_part rfl 38 _ rfl (W5.heap.size) 0 rfl (acells .u64 2 rv0) _ (M23.at 1 rfl).whole Tryd.underlying38 rfl (by rw [acells_size]; exact sizeC) ?_)
    | (clear ok2_2; go_at_call 24; refine (eqCells (rv0) _).mono ?_; rintro e W25 ⟨rfl, hb26⟩; have M27 := M23.call hb26; have z28 := hb26.size; clear hb26 M23))
  go_ret
  exact ⟨rfl, M27.below⟩
theorem trodVars_len {H : Type} {enc : TypeId × Value → H} {P : Program} {w : World} {sp : Nat → Bool} : ∀ {ns : List String} {gs : List (DataW H)} {ps : List MemPlace}, DataW.TrodVars enc P w sp ns gs ps → gs.length = ns.length
  | [], [], _, _ => rfl
  | [], _ :: _, _, h => h.elim
  | _ :: _, [], _, h => h.elim
  | _ :: _, _ :: _, _, ⟨_, _, _, _, _, _, _, _, _, _, h, _⟩ => congrArg (· + 1) (trodVars_len h)
theorem door_met (os : Os) (args : Array Value) : laidMetH Tryd.prog Rows.fnExactCoverOfRow.laid ((World.doorLaid Tryd.prog 400 os).forCall (fun _ _ => 0) ⟨#[], args, []⟩).memory :=
  laidMetH_of_parts3 (fuel := 8) (laidMet_of_run' 8 (by kernel_rfl) (by kernel_rfl)) (by kernel_rfl) (by kernel_rfl)
set_option maxRecDepth 100000 in
theorem lifted (os : Os) (started : os.Started) (H : Type) (enc : TypeId × Value → H) :
    ReturnsInHanded {} Tryd.checked os 6 .any (fun w args => (Rows.fnExactCoverOfSpec.pre enc Tryd.prog Tryd.f6 Rows.fnExactCoverOfRow.domain false w args ∧ laidMetH Tryd.prog Rows.fnExactCoverOfRow.laid w) ∧ sizedMet enc Tryd.prog Tryd.f6 (OpenSpec.ofChange Rows.fnExactCoverOfSpec) false w args) (Rows.fnExactCoverOfSpec.post enc Tryd.prog Tryd.f6 false true false false) := by
  refine returnsInHanded_of_change_and (C := Tryd.checked) (X := fun w _ => laidMetH Tryd.prog Rows.fnExactCoverOfRow.laid w) (fun _ _ _ hh h => h.of_heap hh) own started (by kernel_rfl) Tryd.func6
    (ChangeSpec.witness_shaped (enc := enc) (C := Tryd.checked) (os := os) (X := fun w _ => laidMetH Tryd.prog Rows.fnExactCoverOfRow.laid w) false (World.doorLaid Tryd.prog 400 os) #[.agg (fcells Fd.zero), .int .i64 0, .int .i64 0, .int .i64 0] 8 rfl (World.shaped_of_RefB (by kernel_rfl) (by kernel_rfl)) (by kernel_rfl) (by kernel_rfl) (by kernel_rfl) (door_met os _)) ?_
  intro W base args ds gs before hval0 hW _ _ hL _
  have hval : ∀ (j : Nat) t v, Tryd.f6.params[j]? = some t → args[j]? = some v → Value.okWide Tryd.prog W .any base t v := hval0
  have hW' := hW
  obtain ⟨p, q, hA0, hV0, rfl, hfz, hnd⟩ := hW
  have hA : DataW.TrodAll enc Tryd.prog W 0 (fun _ => true) true Tryd.f6.params.toList args.toList ds p := hA0
  have hV : DataW.TrodVars enc Tryd.prog W (fun _ => true) Rows.fnExactCoverOfSpec.vars gs q := hV0
  rw [Tryd.params6] at hA hval
  obtain ⟨v0, vs0, d0, ds0, p0, q0, hargs, rfl, rfl, h0, r0⟩ := trodAll_cons hA
  obtain ⟨v1, vs1, d1, ds1, p1, q1, rfl, rfl, rfl, h1, r1⟩ := trodAll_cons r0
  obtain ⟨v2, vs2, d2, ds2, p2, q2, rfl, rfl, rfl, h2, r2⟩ := trodAll_cons r1
  obtain ⟨v3, vs3, d3, ds3, p3, q3, rfl, rfl, rfl, h3, r3⟩ := trodAll_cons r2
  obtain ⟨rfl, rfl, rfl⟩ := trodAll_nil r3
  obtain rfl : args = #[v0, v1, v2, v3] := by cases args; simp_all
  rw [MakeChecks.laidMetH_plain _ _ _ (by kernel_rfl)] at hL
  obtain ⟨A, SV⟩ := sentVars (rest := []) hL
  have hlen := trodVars_len hV
  obtain ⟨gv1, gv2, gv3, gv4, gv5, gv6, gv7, gv8, rfl⟩ : ∃ gv1 gv2 gv3 gv4 gv5 gv6 gv7 gv8, gs = [gv1, gv2, gv3, gv4, gv5, gv6, gv7, gv8] := by
    match gs, hlen with
    | [gv1, gv2, gv3, gv4, gv5, gv6, gv7, gv8], _ => exact ⟨gv1, gv2, gv3, gv4, gv5, gv6, gv7, gv8, rfl⟩
  have k0 := h0
  have lt0 : ∀ x ∈ p0, x.block < W.heap.size := by obtain ⟨m, hm⟩ := k0; exact DataW.trod_lt m _ _ _ hm
  have k1 := h1
  have lt1 : ∀ x ∈ p1, x.block < W.heap.size := by obtain ⟨m, hm⟩ := k1; exact DataW.trod_lt m _ _ _ hm
  have k2 := h2
  have lt2 : ∀ x ∈ p2, x.block < W.heap.size := by obtain ⟨m, hm⟩ := k2; exact DataW.trod_lt m _ _ _ hm
  have k3 := h3
  have lt3 : ∀ x ∈ p3, x.block < W.heap.size := by obtain ⟨m, hm⟩ := k3; exact DataW.trod_lt m _ _ _ hm
  obtain ⟨f0, rfl, hf0⟩ := open_field (fs := Tryd.prog.fieldsOf 27) (by kernel_rfl) (by kernel_rfl) Tryd.underlying22 Tryd.underlying23 Tryd.underlying5 Tryd.underlying25 Tryd.underlying24 (by kernel_rfl) (by kernel_rfl) (by kernel_rfl) (by kernel_rfl) (by kernel_rfl) (by kernel_rfl) (hval 0 27 v0 rfl rfl) h0
  obtain ⟨n1, rfl, rfl, rfl, wn1⟩ := open_int Tryd.underlying2 (hval 1 2 v1 rfl rfl) h1
  obtain ⟨n2, rfl, rfl, rfl, wn2⟩ := open_int Tryd.underlying2 (hval 2 2 v2 rfl rfl) h2
  obtain ⟨n3, rfl, rfl, rfl, wn3⟩ := open_int Tryd.underlying2 (hval 3 2 v3 rfl rfl) h3
  clear hA0 hval0 hV0
  refine (walk W f0 hf0 n1 wn1 n2 wn2 n3 wn3 A SV.sents).mono fun e W' ⟨he, bel⟩ => ?_
  subst he
  exact ⟨_, rfl, _, _, _, [], _, _, hW', trodAll_mk1 (shut_bool Tryd.underlying4 _), (trodAll_cons_mk (Below.trod laidOut (by kernel_rfl) (of_decide_eq_true (by kernel_rfl)) k0 bel lt0) (trodAll_cons_mk (Below.trod laidOut (by kernel_rfl) (of_decide_eq_true (by kernel_rfl)) k1 bel lt1) (trodAll_cons_mk (Below.trod laidOut (by kernel_rfl) (of_decide_eq_true (by kernel_rfl)) k2 bel lt2) (trodAll_cons_mk (Below.trod laidOut (by kernel_rfl) (of_decide_eq_true (by kernel_rfl)) k3 bel lt3) trodAll_mk0)))), Below.trodVars laidOut bel (by kernel_rfl) hV, bel.frame _, fun h => by cases h⟩

theorem over : Rows.fnExactCoverOfRow.holds Tryd.pinned (OpenSpec.ofChange Rows.fnExactCoverOfSpec) :=
  OpenClaim.holds_of_wide 6 Tryd.f6 rfl rfl rfl rfl rfl rfl rfl ⟨rfl, rfl, rfl, rfl, rfl⟩ rfl rfl rfl rfl rfl (by kernel_rfl) Tryd.func6 (by kernel_rfl)
    (of_decide_eq_true (by kernel_rfl)) (by unfold Func.isWrapper; first | (rw [if_pos (by decide +kernel)]; kernel_rfl) | (rw [if_neg (by decide +kernel)]; exact ⟨rfl, rfl⟩))
    (fun os started H enc _ => lifted os started H enc)
theorem proved : Rows.FnExactCoverOfCardSaid :=
  Claim7.holds_tied_plain_at .later [] [.sentinel, .sentinel, .sentinel, .sentinel, .sentinel, .sentinel, .sentinel, .sentinel] true (true, "7a2200b5278f65085a9624d6ebea4e787744d21a7c17fe6f443cc81c62e32d00") true
    over (fun _ h => by cases h) (by kernel_rfl) (fun _ h => by cases h) fnExactCoverOf_row_tie rfl ⟨rfl, rfl⟩ (by kernel_rfl) rfl
    (fun f fn hf hfn => by
      obtain rfl : f = 6 := Option.some.inj ((show Tryd.prog.funcNamed "loop.example/g01338/laws.FnExactCoverOf" = some 6 by kernel_rfl).symm.trans hf) |>.symm
      obtain rfl : fn = Tryd.f6 := (Option.some.inj (Tryd.func6.symm.trans hfn)).symm
      exact ⟨by kernel_rfl, fun j t ht => by
        rw [Tryd.params6] at ht
        have hm : t ∈ [27, 2, 2, 2] := by simpa using Array.mem_of_getElem? ht
        have hall : ([27, 2, 2, 2].all fun u => !Tryd.prog.wantsStandIn u) = true := by kernel_rfl
        exact (show Tryd.prog.wantsStandIn t = false by simpa using List.all_eq_true.1 hall t hm)⟩)
    (by kernel_rfl)
#print axioms proved
end Go.Proofs.YtmdfmbkchiafhaaDoor.lawCoverOf
