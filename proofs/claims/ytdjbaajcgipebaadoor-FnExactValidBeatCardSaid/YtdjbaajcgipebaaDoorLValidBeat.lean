/-
  ValidBeat: for every field (valid or not) and every beat the program answers as the model does: no condition beyond the listed sentinels, which the card ties to the program's text.
-/
import Derived.Test.YtdjbaajcgipebaaDoorBtC
import Derived.Test.YtdjbaajcgipebaaDoorLawh
import Derived.Test.YtdjbaajcgipebaaDoorSent
import Derived.Test.YtdjbaajcgipebaaDoorCard1
import Derived.Test.YtdjbaajcgipebaaDoorTie
import Derived.Test.YtdjbaajcgipebaaDoorCards
import Derived.SevenTiedAt
import Derived.OpenVars
namespace Go.Proofs.YtdjbaajcgipebaaDoor.lawValidBeat
open Go Go.ChangeShapes Go.WideShapes Go.ChangeAt Go.RowKit

set_option maxRecDepth 100000 in
set_option maxHeartbeats 8000000 in
theorem walk (w : World) (f : Fd) (hf : f.Wf) (s : Option Addr) (z c : Nat) (g : Nat → Int) (hz : z ≤ 2 ^ 63 - 1) (hi : HJ w s z g) (hg : WfH z g) (A : Nat → Addr) (S0 : Sent1 w A) :
    Calls Tryd.prog 3 #[.agg (fcells f), .slice s z c] w fun e w' => e = .returned (.bool true) ∧ Below w.heap.size w w' := by
  have S : Hid (Sent1 w A) := Lib.hid S0
  have HI := Lib.hid hi
  have HG := Lib.hid hg
  clear S0 hi hg
  by_cases hb1 : 1048576 < z
  · have t1 : decide (1048576 < (z : Int)) = true := decide_eq_true (by omega)
    go_enter Tryd.func3, Tryd.ntmps3
    go_upto_region 1 with (fail)
    obtain ⟨W, hW, M⟩ := open1 w (fcells f) 27
    rw [hW]; clear hW
    go_wp2_with (fail)
    go_ret
    exact ⟨rfl, M.below⟩
  have q1 : z ≤ 2 ^ 40 := by omega
  have t1 : decide (1048576 < (z : Int)) = false := decide_eq_false (by omega)
  obtain ⟨rv, hrv⟩ : ∃ y, (okF f && beatOk f z g) = y := ⟨_, rfl⟩
  have HR := Lib.hid hrv
  clear hrv
  go_enter Tryd.func3, Tryd.ntmps3
  go_upto_region 1 with (fail)
  obtain ⟨W, hW, M⟩ := open1 w (fcells f) 27
  rw [hW]; clear hW
  go_upto_region 4 with (first
    | (refine wpList_load_part rfl 27 _ rfl (w.heap.size) 0 rfl (fcells f) _ (M.at 0 rfl).whole Tryd.underlying27 rfl (by rw [fcells_size]; exact sizeFl) ?_)
    | (go_at_call 12; refine (toField _ _).mono ?_; rintro e W1 ⟨rfl, hb⟩; have M1 := M.call hb; clear M hb)
    | (go_at_call 13; refine (toBeat_arg z q1 g s c _ (HI.out.later M1.below)).mono ?_; rintro e W2 ⟨b2, rfl, I2, hb⟩; have M2 := M1.call hb; have J2 := Lib.hid I2; clear M1 hb I2)
    | (go_at_call 11; refine (specValidBeat f hf z q1 g HG.out b2 z _ J2.out).mono ?_; rintro e W3 ⟨rfl, hb⟩; rw [HR.out]; have M3 := M2.call hb; clear M2 hb J2))
  go_upto_region 5 with (go_at_call 13; refine (toBeat_arg z q1 g s c _ (HI.out.later M3.below)).mono ?_; rintro e W4 ⟨b4, rfl, I4, hb⟩; have M4 := M3.call hb; have J4 := Lib.hid I4; clear M3 hb I4)
  go_upto_region 6 with (first
    | (refine wpList_load_part rfl 27 _ rfl (w.heap.size) 0 rfl (fcells f) _ (M4.at 0 rfl).whole Tryd.underlying27 rfl (by rw [fcells_size]; exact sizeFl) ?_)
    | (go_at_call 12; refine (toField _ _).mono ?_; rintro e W5 ⟨rfl, hb⟩; have M5 := M4.call hb; have J5 := Lib.hid (J4.out.later hb); clear M4 hb J4)
    | (go_at_call 14; refine (implValidBeat f hf z q1 g HG.out b4 z A _ J5.out (S.out.later M5.below)).mono ?_; rintro e W6 ⟨rfl, hb⟩; rw [HR.out]; have M6 := M5.call hb; have J6 := Lib.hid (J5.out.later hb); clear M5 hb J5))
  cases rv
  all_goals go_wp2_with (first
    | (go_at_call 13; refine (toBeat_arg z q1 g s c _ (HI.out.later M6.below)).mono ?_; rintro e W7 ⟨b7, rfl, I7, hb⟩; have M7 := M6.call hb; have J7 := Lib.hid I7; have J6b := Lib.hid (J6.out.later hb); clear M6 hb I7 J6)
    | (go_at_call 15; refine (eqBeat_same z q1 g _ _ _ _ _ J6b.out J7.out).mono ?_; rintro e W8 ⟨rfl, hb⟩; have M8 := M7.call hb; clear M7 hb))
  all_goals go_ret
  all_goals exact ⟨rfl, M8.below⟩
theorem trodVars_len {H : Type} {enc : TypeId × Value → H} {P : Program} {w : World} {sp : Nat → Bool} : ∀ {ns : List String} {gs : List (DataW H)} {ps : List MemPlace}, DataW.TrodVars enc P w sp ns gs ps → gs.length = ns.length
  | [], [], _, _ => rfl
  | [], _ :: _, _, h => h.elim
  | _ :: _, [], _, h => h.elim
  | _ :: _, _ :: _, _, ⟨_, _, _, _, _, _, _, _, _, _, h, _⟩ => congrArg (· + 1) (trodVars_len h)
theorem door_met (os : Os) (args : Array Value) : laidMetH Tryd.prog Rows.fnExactValidBeatRow.laid ((World.doorLaid Tryd.prog 400 os).forCall (fun _ _ => 0) ⟨#[], args, []⟩).memory :=
  laidMetH_of_parts3 (fuel := 8) (laidMet_of_run' 8 (by kernel_rfl) (by kernel_rfl)) (by kernel_rfl) (by kernel_rfl)
set_option maxRecDepth 100000 in
theorem lifted (os : Os) (started : os.Started) (H : Type) (enc : TypeId × Value → H) :
    ReturnsInHanded {} Tryd.checked os 3 .any (fun w args => (Rows.fnExactValidBeatSpec.pre enc Tryd.prog Tryd.f3 Rows.fnExactValidBeatRow.domain false w args ∧ laidMetH Tryd.prog Rows.fnExactValidBeatRow.laid w) ∧ sizedMet enc Tryd.prog Tryd.f3 (OpenSpec.ofChange Rows.fnExactValidBeatSpec) false w args) (Rows.fnExactValidBeatSpec.post enc Tryd.prog Tryd.f3 false true false false) := by
  refine returnsInHanded_of_change_and (C := Tryd.checked) (X := fun w _ => laidMetH Tryd.prog Rows.fnExactValidBeatRow.laid w) (fun _ _ _ hh h => h.of_heap hh) own started (by kernel_rfl) Tryd.func3
    (ChangeSpec.witness_shaped (enc := enc) (C := Tryd.checked) (os := os) (X := fun w _ => laidMetH Tryd.prog Rows.fnExactValidBeatRow.laid w) false (World.doorLaid Tryd.prog 400 os) #[.agg (fcells Fd.zero), .slice none 0 0] 8 rfl (World.shaped_of_RefB (by kernel_rfl) (by kernel_rfl)) (by kernel_rfl) (by kernel_rfl) (by kernel_rfl) (door_met os _)) ?_
  intro W base args ds gs before hval0 hW _ _ hL _
  have hval : ∀ (j : Nat) t v, Tryd.f3.params[j]? = some t → args[j]? = some v → Value.okWide Tryd.prog W .any base t v := hval0
  have hW' := hW
  obtain ⟨p, q, hA0, hV0, rfl, hfz, hnd⟩ := hW
  have hA : DataW.TrodAll enc Tryd.prog W 0 (fun _ => true) true Tryd.f3.params.toList args.toList ds p := hA0
  have hV : DataW.TrodVars enc Tryd.prog W (fun _ => true) Rows.fnExactValidBeatSpec.vars gs q := hV0
  rw [Tryd.params3] at hA hval
  obtain ⟨v0, vs0, d0, ds0, p0, q0, hargs, rfl, rfl, h0, r0⟩ := trodAll_cons hA
  obtain ⟨v1, vs1, d1, ds1, p1, q1, rfl, rfl, rfl, h1, r1⟩ := trodAll_cons r0
  obtain ⟨rfl, rfl, rfl⟩ := trodAll_nil r1
  obtain rfl : args = #[v0, v1] := by cases args; simp_all
  rw [MakeChecks.laidMetH_plain _ _ _ (by kernel_rfl)] at hL
  obtain ⟨A, S2⟩ := sent1_of hL
  have hlen := trodVars_len hV
  obtain ⟨gv1, rfl⟩ : ∃ gv1, gs = [gv1] := by
    match gs, hlen with
    | [gv1], _ => exact ⟨gv1, rfl⟩
  have k0 := h0
  have lt0 : ∀ x ∈ p0, x.block < W.heap.size := by obtain ⟨m, hm⟩ := k0; exact DataW.trod_lt m _ _ _ hm
  have k1 := h1
  have lt1 : ∀ x ∈ p1, x.block < W.heap.size := by obtain ⟨m, hm⟩ := k1; exact DataW.trod_lt m _ _ _ hm
  obtain ⟨f0, rfl, hf0⟩ := open_field (fs := Tryd.prog.fieldsOf 27) (by kernel_rfl) (by kernel_rfl) Tryd.underlying22 Tryd.underlying23 Tryd.underlying5 Tryd.underlying25 Tryd.underlying24 (by kernel_rfl) (by kernel_rfl) (by kernel_rfl) (by kernel_rfl) (by kernel_rfl) (by kernel_rfl) (hval 0 27 v0 rfl rfl) h0
  obtain ⟨s1, z1, c1, g1, rfl, hz1, hi1, hg1⟩ := open_halves Tryd.underlying28 Tryd.underlying24 (by kernel_rfl) (hval 1 28 v1 rfl rfl) h1
  clear hA0 hval0 hV0
  refine (walk W f0 hf0 s1 z1 c1 g1 (by simpa [maxLen] using hz1) hi1 hg1 A S2).mono fun e W' ⟨he, bel⟩ => ?_
  subst he
  exact ⟨_, rfl, _, _, _, [], _, _, hW', trodAll_mk1 (shut_bool Tryd.underlying4 _), (trodAll_cons_mk (Below.trod laidOut (by kernel_rfl) (of_decide_eq_true (by kernel_rfl)) k0 bel lt0) (trodAll_cons_mk (Below.trod laidOut (by kernel_rfl) (of_decide_eq_true (by kernel_rfl)) k1 bel lt1) trodAll_mk0)), Below.trodVars laidOut bel (by kernel_rfl) hV, bel.frame _, fun h => by cases h⟩

theorem over : Rows.fnExactValidBeatRow.holds Tryd.pinned (OpenSpec.ofChange Rows.fnExactValidBeatSpec) :=
  OpenClaim.holds_of_wide 3 Tryd.f3 rfl rfl rfl rfl rfl rfl rfl ⟨rfl, rfl, rfl, rfl, rfl⟩ rfl rfl rfl rfl rfl (by kernel_rfl) Tryd.func3 (by kernel_rfl)
    (of_decide_eq_true (by kernel_rfl)) (by unfold Func.isWrapper; first | (rw [if_pos (by decide +kernel)]; kernel_rfl) | (rw [if_neg (by decide +kernel)]; exact ⟨rfl, rfl⟩))
    (fun os started H enc _ => lifted os started H enc)
theorem proved : Rows.FnExactValidBeatCardSaid :=
  Claim7.holds_tied_plain_at .later [] [.sentinel] true (true, "0914e1a8d4c6ef4525306dc8f4027847270c55f222ee511d88e75d1d73e992d1") true
    over (fun _ h => by cases h) (by kernel_rfl) (fun _ h => by cases h) fnExactValidBeat_row_tie rfl ⟨rfl, rfl⟩ (by kernel_rfl) rfl
    (fun f fn hf hfn => by
      obtain rfl : f = 3 := Option.some.inj ((show Tryd.prog.funcNamed "loop.example/g01338/laws.FnExactValidBeat" = some 3 by kernel_rfl).symm.trans hf) |>.symm
      obtain rfl : fn = Tryd.f3 := (Option.some.inj (Tryd.func3.symm.trans hfn)).symm
      exact ⟨by kernel_rfl, fun j t ht => by
        rw [Tryd.params3] at ht
        have hm : t ∈ [27, 28] := by simpa using Array.mem_of_getElem? ht
        have hall : ([27, 28].all fun u => !Tryd.prog.wantsStandIn u) = true := by kernel_rfl
        exact (show Tryd.prog.wantsStandIn t = false by simpa using List.all_eq_true.1 hall t hm)⟩)
    (by kernel_rfl)
#print axioms proved
end Go.Proofs.YtdjbaajcgipebaaDoor.lawValidBeat
