/-
  NeighboursOf: for every field (valid or not) and every number the program's list and code are the model's, and the list's memory is its own: no condition beyond the listed sentinels, which the card ties to the program's text.
-/
import Derived.Test.YtcaeihhdapghkaaDoorNbrI
import Derived.Test.YtcaeihhdapghkaaDoorMark
import Derived.Test.YtcaeihhdapghkaaDoorLawh
import Derived.Test.YtcaeihhdapghkaaDoorOpen
import Derived.Test.YtcaeihhdapghkaaDoorCard
import Derived.Test.YtcaeihhdapghkaaDoorTie
import Derived.Test.YtcaeihhdapghkaaDoorCards
import Derived.SevenTiedAt
import Derived.OpenVars
namespace Go.Proofs.YtcaeihhdapghkaaDoor.lawNeighboursOf
open Go Go.ChangeShapes Go.WideShapes Go.ChangeAt Go.RowKit

set_option maxRecDepth 100000 in
set_option maxHeartbeats 4000000 in
theorem walk (w : World) (f : Fd) (hf : f.Wf) (a : Int) (ha : (Lit.int .i64 a).wf = true) (A : Nat → Addr) (S0 : Sents w A) : Calls Tryd.prog 5 #[.agg (fcells f), .int .i64 a] w fun e w' => e = .returned (.bool true) ∧ Below w.heap.size w w' := by
  have S : Hid (Sents w A) := Lib.hid S0
  clear S0
  obtain ⟨ha1, ha2⟩ := bounds_i64 ha
  clear ha
  have hlen : (nbrs f a).length ≤ 2 ^ 40 := by have := nbrs_le f a; omega
  go_enter Tryd.func5, Tryd.ntmps5
  go_upto_region 1 with (fail)
  obtain ⟨W, hW, M⟩ := open1 w (fcells f) 27
  rw [hW]; clear hW
  go_upto_region 2 with (first
    | (refine wpList_load_part rfl 27 _ rfl w.heap.size 0 rfl (fcells f) _ (M.at 0 rfl).whole Tryd.underlying27 rfl (by rw [fcells_size]; exact sizeFl) ?_)
    | (go_at_call 8; refine (toField _ _).mono ?_; rintro e W1 ⟨rfl, hb⟩; have M1 := M.call hb; clear M hb)
    | (go_at_call 13; refine (specNeighboursOf f hf a _).mono ?_; rintro e W2 ⟨v1, rfl, O1, hb⟩; have M2 := M1.call hb; clear M1 hb; obtain ⟨p1, c1, rfl, J1, P1, _⟩ := O1.val; clear O1))
  go_upto_region 3 with (first
    | (refine wpList_load_part rfl 27 _ rfl w.heap.size 0 rfl (fcells f) _ (M2.at 0 rfl).whole Tryd.underlying27 rfl (by rw [fcells_size]; exact sizeFl) ?_)
    | (go_at_call 8; refine (toField _ _).mono ?_; rintro e W3 ⟨rfl, hb⟩; have M3 := M2.call hb; have J3 := J1.later hb; have z3 := hb.size; clear M2 hb J1)
    | (go_at_call 14; refine (implNeighboursOf f hf a ha1 ha2 A _ (S.out.later M3.below)).mono ?_; rintro e W4 ⟨v2, rfl, O2, hb⟩; have M4 := M3.call hb; have J4 := J3.later hb; have z4 := hb.size; have l3 := (M3.at 0 rfl).lt; have s3 := M3.below.size; clear M3 hb J3; have O2 : Lst W3.heap.size W4 v2 (nbrs f a) := O2; obtain ⟨p2, c2, e2, K4, P2, _⟩ := O2.val; subst e2))
  go_upto_region 6 with (go_at_call 15; refine (eqInt64S_O _ hlen _ _ _ _ _ _ K4 J4).mono ?_; rintro e W5 ⟨rfl, hb⟩; have M5 := M4.call hb; have J5 := J4.later hb; have O5 := O2.later hb; have z5 := hb.size; clear M4 J4 O2 K4 hb)
  go_upto_region 8 with (go_at_call 16; obtain ⟨p5, c5, e5, _, _, B5⟩ := O5.val; have e5' := e5; injection e5 with e5 _ ec; subst e5; refine (mark_any hlen _ _ B5).mono ?_; rintro e W6 ⟨rfl, K6, b, hb1, hgr, hb⟩; have M6 := M5.lower1 hb (by omega) (by exact l3); have J6 := marked J5 (fun a h => by have := P1 a h; omega) (fun a h => (P2 a h).1) hb1 hgr (fun h0 => by rcases B5 with h | ⟨b', _, h, _⟩; exact absurd h h0; exact ⟨_, h⟩); have z6 := hgr.size; clear M5 J5 hb)
  go_upto_region 13 with (go_at_call 17; refine (held_any hlen _ _ K6).mono ?_; rintro e W7 ⟨rfl, hb⟩; have M7 := M6.call hb; have J7 := J6.later hb; have K7 := K6.later hb; clear M6 J6 K6 hb)
  go_upto_region 14 with (first
    | (refine wpList_load_part rfl 27 _ rfl w.heap.size 0 rfl (fcells f) _ (M7.at 0 rfl).whole Tryd.underlying27 rfl (by rw [fcells_size]; exact sizeFl) ?_)
    | (go_at_call 8; refine (toField _ _).mono ?_; rintro e W8 ⟨rfl, hb⟩; have M8 := M7.call hb; have J8 := J7.later hb; have K8 := K7.later hb; clear M7 hb J7 K7)
    | (go_at_call 14; refine (implNeighboursOf f hf a ha1 ha2 A _ (S.out.later M8.below)).mono ?_; rintro e W9 ⟨v3, rfl, O3, hb⟩; have M9 := M8.call hb; have J9 := J8.later hb; have K9 := K8.later hb; clear M8 hb J8 K8; have O3 : Lst W8.heap.size W9 v3 (nbrs f a) := O3; obtain ⟨p3, c3, e3, L9, P3, _⟩ := O3.val; subst e3))
  go_upto_region 17 with (go_at_call 15; refine (eqInt64S_O _ hlen _ _ _ _ _ _ L9 J9).mono ?_; rintro e W10 ⟨rfl, hb⟩; have M10 := M9.call hb; have K10 := K9.later hb; clear M9 K9 hb)
  go_wp2_with (go_at_call 17; refine (held_any hlen _ _ K10).mono ?_; rintro e W11 ⟨rfl, hb⟩; have M11 := M10.call hb)
  go_ret
  exact ⟨rfl, M11.below⟩

theorem trodVars_len {H : Type} {enc : TypeId × Value → H} {P : Program} {w : World} {sp : Nat → Bool} : ∀ {ns : List String} {gs : List (DataW H)} {ps : List MemPlace}, DataW.TrodVars enc P w sp ns gs ps → gs.length = ns.length
  | [], [], _, _ => rfl
  | [], _ :: _, _, h => h.elim
  | _ :: _, [], _, h => h.elim
  | _ :: _, _ :: _, _, ⟨_, _, _, _, _, _, _, _, _, _, h, _⟩ => congrArg (· + 1) (trodVars_len h)
theorem door_met (os : Os) (args : Array Value) : laidMetH Tryd.prog Rows.fnExactNeighboursOfRow.laid ((World.doorLaid Tryd.prog 400 os).forCall (fun _ _ => 0) ⟨#[], args, []⟩).memory :=
  laidMetH_of_parts3 (fuel := 8) (laidMet_of_run' 8 (by kernel_rfl) (by kernel_rfl)) (by kernel_rfl) (by kernel_rfl)
set_option maxRecDepth 100000 in
theorem lifted (os : Os) (started : os.Started) (H : Type) (enc : TypeId × Value → H) :
    ReturnsInHanded {} Tryd.checked os 5 .any (fun w args => (Rows.fnExactNeighboursOfSpec.pre enc Tryd.prog Tryd.f5 Rows.fnExactNeighboursOfRow.domain false w args ∧ laidMetH Tryd.prog Rows.fnExactNeighboursOfRow.laid w) ∧ sizedMet enc Tryd.prog Tryd.f5 (OpenSpec.ofChange Rows.fnExactNeighboursOfSpec) false w args) (Rows.fnExactNeighboursOfSpec.post enc Tryd.prog Tryd.f5 false true false false) := by
  refine returnsInHanded_of_change_and (C := Tryd.checked) (X := fun w _ => laidMetH Tryd.prog Rows.fnExactNeighboursOfRow.laid w) (fun _ _ _ hh h => h.of_heap hh) own started (by kernel_rfl) Tryd.func5
    (ChangeSpec.witness_shaped (enc := enc) (C := Tryd.checked) (os := os) (X := fun w _ => laidMetH Tryd.prog Rows.fnExactNeighboursOfRow.laid w) false (World.doorLaid Tryd.prog 400 os) #[.agg (fcells Fd.zero), .int .i64 0] 8 rfl (World.shaped_of_RefB (by kernel_rfl) (by kernel_rfl)) (by kernel_rfl) (by kernel_rfl) (by kernel_rfl) (door_met os _)) ?_
  intro W base args ds gs before hval0 hW _ _ hL _
  have hval : ∀ (j : Nat) t v, Tryd.f5.params[j]? = some t → args[j]? = some v → Value.okWide Tryd.prog W .any base t v := hval0
  have hW' := hW
  obtain ⟨p, q, hA0, hV0, rfl, hfz, hnd⟩ := hW
  have hA : DataW.TrodAll enc Tryd.prog W 0 (fun _ => true) true Tryd.f5.params.toList args.toList ds p := hA0
  have hV : DataW.TrodVars enc Tryd.prog W (fun _ => true) Rows.fnExactNeighboursOfSpec.vars gs q := hV0
  rw [Tryd.params5] at hA hval
  obtain ⟨v0, vs0, d0, ds0, p0, q0, hargs, rfl, rfl, h0, r0⟩ := trodAll_cons hA
  obtain ⟨v1, vs1, d1, ds1, p1, q1, rfl, rfl, rfl, h1, r1⟩ := trodAll_cons r0
  obtain ⟨rfl, rfl, rfl⟩ := trodAll_nil r1
  obtain rfl : args = #[v0, v1] := by cases args; simp_all
  rw [MakeChecks.laidMetH_plain _ _ _ (by kernel_rfl)] at hL
  obtain ⟨A, SV⟩ := sentVars (rest := []) hL
  have hlen := trodVars_len hV
  obtain ⟨gv1, gv2, gv3, gv4, gv5, gv6, gv7, gv8, rfl⟩ : ∃ gv1 gv2 gv3 gv4 gv5 gv6 gv7 gv8, gs = [gv1, gv2, gv3, gv4, gv5, gv6, gv7, gv8] := by
    match gs, hlen with
    | [gv1, gv2, gv3, gv4, gv5, gv6, gv7, gv8], _ => exact ⟨gv1, gv2, gv3, gv4, gv5, gv6, gv7, gv8, rfl⟩
  have k0 := h0
  have lt0 : ∀ x ∈ p0, x.block < W.heap.size := by obtain ⟨m, hm⟩ := k0; exact DataW.trod_lt m _ _ _ hm
  have k1 := h1
  have lt1 : ∀ x ∈ p1, x.block < W.heap.size := by obtain ⟨m, hm⟩ := k1; exact DataW.trod_lt m _ _ _ hm
  obtain ⟨f0, rfl, hf0⟩ := open_field (fs := Tryd.prog.fieldsOf 27) (by kernel_rfl) (by kernel_rfl) Tryd.underlying22 Tryd.underlying23 Tryd.underlying5 Tryd.underlying25 Tryd.underlying24 (by kernel_rfl) (by kernel_rfl) (by kernel_rfl) (by kernel_rfl) (by kernel_rfl) (by kernel_rfl) (hval 0 27 v0 rfl rfl) h0
  obtain ⟨n1, rfl, rfl, rfl, wn1⟩ := open_int Tryd.underlying2 (hval 1 2 v1 rfl rfl) h1
  clear hA0 hval0 hV0
  refine (walk W f0 hf0 n1 wn1 A SV.sents).mono fun e W' ⟨he, bel⟩ => ?_
  subst he
  exact ⟨_, rfl, _, _, _, [], _, _, hW', trodAll_mk1 (shut_bool Tryd.underlying4 _), (trodAll_cons_mk (Below.trod laidOut (by kernel_rfl) (of_decide_eq_true (by kernel_rfl)) k0 bel lt0) (trodAll_cons_mk (Below.trod laidOut (by kernel_rfl) (of_decide_eq_true (by kernel_rfl)) k1 bel lt1) trodAll_mk0)), Below.trodVars laidOut bel (by kernel_rfl) hV, bel.frame _, fun h => by cases h⟩

theorem over : Rows.fnExactNeighboursOfRow.holds Tryd.pinned (OpenSpec.ofChange Rows.fnExactNeighboursOfSpec) :=
  OpenClaim.holds_of_wide 5 Tryd.f5 rfl rfl rfl rfl rfl rfl rfl ⟨rfl, rfl, rfl, rfl, rfl⟩ rfl rfl rfl rfl rfl (by kernel_rfl) Tryd.func5 (by kernel_rfl)
    (of_decide_eq_true (by kernel_rfl)) (by unfold Func.isWrapper; first | (rw [if_pos (by decide +kernel)]; kernel_rfl) | (rw [if_neg (by decide +kernel)]; exact ⟨rfl, rfl⟩))
    (fun os started H enc _ => lifted os started H enc)
theorem proved : Rows.FnExactNeighboursOfCardSaid :=
  Claim7.holds_tied_plain_at .later [] [.sentinel, .sentinel, .sentinel, .sentinel, .sentinel, .sentinel, .sentinel, .sentinel] true (true, "49100e61fb274c1da301817eea88f1bf7aa208045a79f0859874623654066443") true
    over (fun _ h => by cases h) (by kernel_rfl) (fun _ h => by cases h) fnExactNeighboursOf_row_tie rfl ⟨rfl, rfl⟩ (by kernel_rfl) rfl
    (fun f fn hf hfn => by
      obtain rfl : f = 5 := Option.some.inj ((show Tryd.prog.funcNamed "loop.example/g01338/laws.FnExactNeighboursOf" = some 5 by kernel_rfl).symm.trans hf) |>.symm
      obtain rfl : fn = Tryd.f5 := (Option.some.inj (Tryd.func5.symm.trans hfn)).symm
      exact ⟨by kernel_rfl, fun j t ht => by
        rw [Tryd.params5] at ht
        have hm : t ∈ [27, 2] := by simpa using Array.mem_of_getElem? ht
        have hall : ([27, 2].all fun u => !Tryd.prog.wantsStandIn u) = true := by kernel_rfl
        exact (show Tryd.prog.wantsStandIn t = false by simpa using List.all_eq_true.1 hall t hm)⟩)
    (by kernel_rfl)
#print axioms proved
end Go.Proofs.YtcaeihhdapghkaaDoor.lawNeighboursOf
