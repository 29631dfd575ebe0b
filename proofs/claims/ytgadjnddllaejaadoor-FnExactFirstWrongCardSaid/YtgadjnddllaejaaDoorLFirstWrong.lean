/-
  FirstWrong: for all arguments the program answers as the model does, and the entries stay as they are: no condition beyond the listed variables, which the card ties to the program's text.
-/
import Derived.Test.YtgadjnddllaejaaDoorFw
import Derived.Test.YtgadjnddllaejaaDoorLstE
import Derived.Test.YtgadjnddllaejaaDoorEqF
import Derived.Test.YtgadjnddllaejaaDoorLawh
import Derived.Test.YtgadjnddllaejaaDoorCoreB
import Derived.Test.YtgadjnddllaejaaDoorCard
import Derived.Test.YtgadjnddllaejaaDoorTie
import Derived.Test.YtgadjnddllaejaaDoorCards
import Derived.SevenTiedAt
import Derived.OpenVars
namespace Go.Proofs.YtgadjnddllaejaaDoor.lawFirstWrong
open Go Go.ChangeShapes Go.WideShapes Go.ChangeAt Go.RowKit

set_option maxRecDepth 100000 in
set_option maxHeartbeats 16000000 in
theorem walk (w : World) (f : Fd) (hff : f.Wf) (s : Option Addr) (z c : Nat) (F : Nat → Nat → Int) (hz : z ≤ 2 ^ 63 - 1) (hi : InA ksEntry w s z F) (hg9 : WfS ksEntry z F) (A : Nat → Addr) (S0 : Sents w A) (hgt : w.cell? ⟨2, 0, none⟩ = some (.iface 105 (.agg #[.pointer (some ⟨9, 54, none⟩)]))) :
    Calls Tryd.prog 4 #[.agg (fcells f), .slice s z c] w fun e w' => e = .returned (.bool true) ∧ Below w.heap.size w w' := by
  have S : Hid (Sents w A) := Lib.hid S0
  have HI := Lib.hid hi
  have HG := Lib.hid (fun (W : World) (hb : Below w.heap.size w W) => cell_later hgt hb)
  have hF : ∀ i, i < z → WfEn (F i) := fun i hi => ⟨bounds_i8 (hg9 i hi 0 (by decide)), bounds_i16 (hg9 i hi 1 (by decide)), bounds_i16 (hg9 i hi 2 (by decide))⟩
  clear S0 hi hg9 hgt
  by_cases hbig : 1048576 < z
  · go_enter Tryd.func4, Tryd.ntmps4
    go_upto_region 1 with (fail)
    obtain ⟨W, hW, M⟩ := open1 w (fcells f) 27
    rw [hW]; clear hW
    go_wp2_with (go_at_call 5; refine (szEntryS_any z c (by omega) s _ (by omega) (by omega) (by omega) _).mono ?_; rintro e w9 ⟨rfl, rfl⟩; rw [if_pos (by omega)])
    go_ret
    exact ⟨rfl, M.below⟩
  have q : z ≤ 2 ^ 40 := by omega
  have HS := Lib.hid (fun b w I => specFirstWrong f hff z q F hF b 0 z w I)
  have HP := Lib.hid (fun b w S G I => implFirstWrong f hff z q F hF b 0 z A w S G I)
  obtain ⟨x1, hx1⟩ : ∃ x1, fwA f z F = x1 := ⟨_, rfl⟩
  obtain ⟨x2, hx2⟩ : ∃ x2, fwB f z F = x2 := ⟨_, rfl⟩
  obtain ⟨x3, hx3⟩ : ∃ x3, fwC f z F = x3 := ⟨_, rfl⟩
  rw [hx1, hx2, hx3] at HS HP
  clear hx1 hx2 hx3 hff hF
  go_enter Tryd.func4, Tryd.ntmps4
  go_upto_region 1 with (fail)
  obtain ⟨W, hW, M⟩ := open1 w (fcells f) 27
  rw [hW]; clear hW
  go_upto_region 5 with (go_at_call 5; refine (szEntryS_any z c (by omega) s _ (by omega) (by omega) (by omega) _).mono ?_; rintro e w9 ⟨rfl, rfl⟩; rw [if_neg (by omega)])
  go_upto_region 6 with (first
    | (refine wpList_load_part rfl 27 _ rfl w.heap.size 0 rfl (fcells f) _ (M.at 0 rfl).whole Tryd.underlying27 rfl (by rw [fcells_size]; exact sizeFl) ?_)
    | (go_at_call 7; refine (toField f _).mono ?_; rintro e W1 ⟨rfl, hb⟩; have M1 := M.call hb; clear hb M)
    | (go_at_call 8; refine (Eto_any z q F s c _ (HI.out.later M1.below)).mono ?_; rintro e W2 ⟨b2, rfl, I2, _, _, hb⟩; have M2 := M1.call hb; clear hb M1; have J2 := Lib.hid I2; clear I2)
    | (go_at_call 13; refine (HS.out b2 _ J2.out).mono ?_; rintro e W3 ⟨rfl, hb⟩; have M3 := M2.call hb; clear hb M2 J2))
  go_upto_region 7 with (go_at_call 8; refine (Eto_any z q F s c _ (HI.out.later M3.below)).mono ?_; rintro e W5 ⟨b5, rfl, I5, _, _, hb⟩; have M5 := M3.call hb; clear hb M3; have J5 := Lib.hid I5; clear I5; have K5 := Mem.nil W5)
  go_upto_region 8 with (first
    | (refine wpList_load_part rfl 27 _ rfl w.heap.size 0 rfl (fcells f) _ (M5.at 0 rfl).whole Tryd.underlying27 rfl (by rw [fcells_size]; exact sizeFl) ?_)
    | (go_at_call 7; refine (toField f _).mono ?_; rintro e W6 ⟨rfl, hb⟩; have M6 := M5.call hb; have K6 := K5.call hb; clear hb M5 K5)
    | (go_at_call 14; refine (HP.out b5 _ (S.out.later M6.below) (HG.out _ M6.below) (J5.out.later K6.below)).mono ?_; rintro e W7 ⟨rfl, hb⟩; have M7 := M6.call hb; have K7 := K6.call hb; clear hb M6 K6))
  have J7 := Lib.hid (J5.out.later K7.below)
  clear J5 K7
  go_wp2_with (first
    | (go_at_call 8; refine (Eto_any z q F s c _ (HI.out.later M7.below)).mono ?_; rintro e W10 ⟨b10, rfl, I10, _, _, hb⟩; have M10 := M7.call hb; have J10 := Lib.hid (J7.out.later hb); clear M7 hb J7)
    | (go_at_call 12; refine (Eeq_some z q F _ _ _ _ _ _ _ J10.out I10).mono ?_; rintro e W11 ⟨rfl, hb⟩; have M11 := M10.call hb))
  go_ret
  exact ⟨rfl, M11.below⟩
theorem trodVars_len {H : Type} {enc : TypeId × Value → H} {P : Program} {w : World} {sp : Nat → Bool} : ∀ {ns : List String} {gs : List (DataW H)} {ps : List MemPlace}, DataW.TrodVars enc P w sp ns gs ps → gs.length = ns.length
  | [], [], _, _ => rfl
  | [], _ :: _, _, h => h.elim
  | _ :: _, [], _, h => h.elim
  | _ :: _, _ :: _, _, ⟨_, _, _, _, _, _, _, _, _, _, h, _⟩ => congrArg (· + 1) (trodVars_len h)
theorem laidMetH_handle {P : Program} {l : List (String × DataW Unit)} {h : String × DataW Unit} {hs : List (String × DataW Unit)} {w : World} (e : (l.filter fun x => x.2.handleName?.isSome) = h :: hs) (hL : laidMetH P l w) : laidMet P (l.filter fun x => x.2.handleName?.isNone) w ∧ handlesMet P (h :: hs) w := by
  unfold laidMetH at hL
  rw [e] at hL
  exact hL
theorem rtAt : (Tryd.prog.cutTypes.find? (·.1 == "internal/reflectlite.rtype")).map (·.2) = some 105 := by kernel_rfl
theorem errRow : ((List.range Tryd.prog.types.size).filter fun t => Tryd.prog.rowNamed t [101, 114, 114, 111, 114]) = [54] := by kernel_rfl
theorem etAt : Tryd.prog.globalNamed "errors.errorType" = some 2 := by kernel_rfl
theorem errHand : typeHandle Tryd.prog 54 = .pointer (some ⟨9, 54, none⟩) := by kernel_rfl
theorem handle_of {W : World} (h : handlesMet Tryd.prog [("errors.errorType", Rows.laid_errors_errorType)] W) : W.cell? ⟨2, 0, none⟩ = some (.iface 105 (.agg #[.pointer (some ⟨9, 54, none⟩)])) := by
  obtain ⟨name, u, ty, e1, e2, e3, e4, e5⟩ := h _ (List.mem_singleton.2 rfl)
  have en : name = [101, 114, 114, 111, 114] := (Option.some.inj e1).symm
  subst en
  obtain rfl := Option.some.inj (rtAt.symm.trans e2)
  have hm : ty ∈ (List.range Tryd.prog.types.size).filter fun t => Tryd.prog.rowNamed t [101, 114, 114, 111, 114] := List.mem_filter.2 ⟨List.mem_range.2 e3, e4⟩
  rw [errRow] at hm
  obtain rfl := List.mem_singleton.1 hm
  rw [errHand] at e5
  simpa using World.var?_cell etAt e5 0
theorem door_met (os : Os) (args : Array Value) : laidMetH Tryd.prog Rows.fnExactFirstWrongRow.laid ((World.doorLaid Tryd.prog 400 os).forCall (fun _ _ => 0) ⟨#[], args, []⟩).memory :=
  laidMetH_of_parts3 (fuel := 8) (laidMet_of_run' 8 (by kernel_rfl) (by kernel_rfl)) (by kernel_rfl) (by kernel_rfl)
set_option maxRecDepth 100000 in
theorem lifted (os : Os) (started : os.Started) (H : Type) (enc : TypeId × Value → H) :
    ReturnsInHanded {} Tryd.checked os 4 .any (fun w args => (Rows.fnExactFirstWrongSpec.pre enc Tryd.prog Tryd.f4 Rows.fnExactFirstWrongRow.domain false w args ∧ laidMetH Tryd.prog Rows.fnExactFirstWrongRow.laid w) ∧ sizedMet enc Tryd.prog Tryd.f4 (OpenSpec.ofChange Rows.fnExactFirstWrongSpec) false w args) (Rows.fnExactFirstWrongSpec.post enc Tryd.prog Tryd.f4 false true false false) := by
  refine returnsInHanded_of_change_and (C := Tryd.checked) (X := fun w _ => laidMetH Tryd.prog Rows.fnExactFirstWrongRow.laid w) (fun _ _ _ hh h => h.of_heap hh) own started (by kernel_rfl) Tryd.func4
    (ChangeSpec.witness_shaped (enc := enc) (C := Tryd.checked) (os := os) (X := fun w _ => laidMetH Tryd.prog Rows.fnExactFirstWrongRow.laid w) false (World.doorLaid Tryd.prog 400 os) #[.agg (fcells Fd.zero), .slice none 0 0] 8 rfl (World.shaped_of_RefB (by kernel_rfl) (by kernel_rfl)) (by kernel_rfl) (by kernel_rfl) (by kernel_rfl) (door_met os _)) ?_
  intro W base args ds gs before hval0 hW _ _ hL _
  have hval : ∀ (j : Nat) t v, Tryd.f4.params[j]? = some t → args[j]? = some v → Value.okWide Tryd.prog W .any base t v := hval0
  have hW' := hW
  obtain ⟨p, q, hA0, hV0, rfl, hfz, hnd⟩ := hW
  have hA : DataW.TrodAll enc Tryd.prog W 0 (fun _ => true) true Tryd.f4.params.toList args.toList ds p := hA0
  have hV : DataW.TrodVars enc Tryd.prog W (fun _ => true) Rows.fnExactFirstWrongSpec.vars gs q := hV0
  rw [Tryd.params4] at hA hval
  obtain ⟨v0, vs0, d0, ds0, p0, q0, hargs, rfl, rfl, h0, r0⟩ := trodAll_cons hA
  obtain ⟨v1, vs1, d1, ds1, p1, q1, rfl, rfl, rfl, h1, r1⟩ := trodAll_cons r0
  obtain ⟨rfl, rfl, rfl⟩ := trodAll_nil r1
  obtain rfl : args = #[v0, v1] := by cases args; simp_all
  obtain ⟨hL, hHm⟩ := laidMetH_handle (by kernel_rfl : (Rows.fnExactFirstWrongRow.laid.filter fun x => x.2.handleName?.isSome) = [("errors.errorType", Rows.laid_errors_errorType)]) hL
  have hH := handle_of hHm
  rw [(by kernel_rfl : (Rows.fnExactFirstWrongRow.laid.filter fun x => x.2.handleName?.isNone) = laidSents ++ [])] at hL
  obtain ⟨A, SV⟩ := sentVars (rest := []) hL
  have hlen := trodVars_len hV
  obtain ⟨gv1, gv2, gv3, gv4, gv5, gv6, gv7, gv8, rfl⟩ : ∃ gv1 gv2 gv3 gv4 gv5 gv6 gv7 gv8, gs = [gv1, gv2, gv3, gv4, gv5, gv6, gv7, gv8] := by
    match gs, hlen with
    | [gv1, gv2, gv3, gv4, gv5, gv6, gv7, gv8], _ => exact ⟨gv1, gv2, gv3, gv4, gv5, gv6, gv7, gv8, rfl⟩
  have k0 := h0
  have lt0 : ∀ x ∈ p0, x.block < W.heap.size := by obtain ⟨m, hm⟩ := k0; exact DataW.trod_lt m _ _ _ hm
  have k1 := h1
  have lt1 : ∀ x ∈ p1, x.block < W.heap.size := by obtain ⟨m, hm⟩ := k1; exact DataW.trod_lt m _ _ _ hm
  obtain ⟨f0, rfl, hf0⟩ := open_field (fs := Tryd.prog.fieldsOf 27) (by kernel_rfl) (by kernel_rfl) Tryd.underlying22 Tryd.underlying23 Tryd.underlying5 Tryd.underlying25 Tryd.underlying24 (by kernel_rfl) (by kernel_rfl) (by kernel_rfl) (by kernel_rfl) (by kernel_rfl) (by kernel_rfl) (hval 0 27 v0 rfl rfl) h0
  obtain ⟨s1, z1, c1, G1, rfl, hz1, hi1, hg1⟩ := open_ints (ks := ksEntry) (fs := Tryd.prog.fieldsOf 52) Tryd.underlying28 (by kernel_rfl) (by decide) (by kernel_rfl) (by kernel_rfl) (hval 1 28 v1 rfl rfl) h1
  clear hA0 hval0 hV0
  refine (walk W f0 hf0 s1 z1 c1 G1 (by simpa [maxLen] using hz1) hi1 hg1 A SV.sents hH).mono fun e W' ⟨he, bel⟩ => ?_
  subst he
  exact ⟨_, rfl, _, _, _, [], _, _, hW', trodAll_mk1 (shut_bool Tryd.underlying4 _), (trodAll_cons_mk (Below.trod laidOut (by kernel_rfl) (of_decide_eq_true (by kernel_rfl)) k0 bel lt0) (trodAll_cons_mk (Below.trod laidOut (by kernel_rfl) (of_decide_eq_true (by kernel_rfl)) k1 bel lt1) trodAll_mk0)), Below.trodVars laidOut bel (by kernel_rfl) hV, bel.frame _, fun h => by cases h⟩

theorem over : Rows.fnExactFirstWrongRow.holds Tryd.pinned (OpenSpec.ofChange Rows.fnExactFirstWrongSpec) :=
  OpenClaim.holds_of_wide 4 Tryd.f4 rfl rfl rfl rfl rfl rfl rfl ⟨rfl, rfl, rfl, rfl, rfl⟩ rfl rfl rfl rfl rfl (by kernel_rfl) Tryd.func4 (by kernel_rfl)
    (of_decide_eq_true (by kernel_rfl)) (by unfold Func.isWrapper; first | (rw [if_pos (by decide +kernel)]; kernel_rfl) | (rw [if_neg (by decide +kernel)]; exact ⟨rfl, rfl⟩))
    (fun os started H enc _ => lifted os started H enc)
theorem proved : Rows.FnExactFirstWrongCardSaid :=
  Claim7.holds_tied_plain_at .later [] [.handle, .sentinel, .sentinel, .sentinel, .sentinel, .sentinel, .sentinel, .sentinel, .sentinel] true (true, "b949d7b90ddb8c71f5f48161d431279e286b360d02ba28246a4e731d4aeb207d") true
    over (fun _ h => by cases h) (by kernel_rfl) (fun _ h => by cases h) fnExactFirstWrong_row_tie rfl ⟨rfl, rfl⟩ (by kernel_rfl) rfl
    (fun f fn hf hfn => by
      obtain rfl : f = 4 := Option.some.inj ((show Tryd.prog.funcNamed "loop.example/g01338/laws.FnExactFirstWrong" = some 4 by kernel_rfl).symm.trans hf) |>.symm
      obtain rfl : fn = Tryd.f4 := (Option.some.inj (Tryd.func4.symm.trans hfn)).symm
      exact ⟨by kernel_rfl, fun j t ht => by
        rw [Tryd.params4] at ht
        have hm : t ∈ [27, 28] := by simpa using Array.mem_of_getElem? ht
        have hall : ([27, 28].all fun u => !Tryd.prog.wantsStandIn u) = true := by kernel_rfl
        exact (show Tryd.prog.wantsStandIn t = false by simpa using List.all_eq_true.1 hall t hm)⟩)
    (by kernel_rfl)
#print axioms proved
end Go.Proofs.YtgadjnddllaejaaDoor.lawFirstWrong
