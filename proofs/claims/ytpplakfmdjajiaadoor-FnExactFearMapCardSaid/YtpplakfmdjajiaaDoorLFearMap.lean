/-
  FearMap: for every field (valid or not), all scarecrows and every number the program answers as the model does: no condition beyond the listed sentinels, which the card ties to the program's text.
-/
import Derived.Test.YtpplakfmdjajiaaDoorFearM
import Derived.Test.YtpplakfmdjajiaaDoorScrIn
import Derived.Test.YtpplakfmdjajiaaDoorScrLaw
import Derived.Test.YtpplakfmdjajiaaDoorLawh
import Derived.Test.YtpplakfmdjajiaaDoorOpen
import Derived.Test.YtpplakfmdjajiaaDoorCard
import Derived.Test.YtpplakfmdjajiaaDoorTie
import Derived.Test.YtpplakfmdjajiaaDoorCards
import Derived.SevenTiedAt
import Derived.OpenVars
namespace Go.Proofs.YtpplakfmdjajiaaDoor.lawFearMap
open Go Go.ChangeShapes Go.WideShapes Go.ChangeAt Go.RowKit

set_option maxRecDepth 100000 in
set_option maxHeartbeats 8000000 in
theorem walk (w : World) (f : Fd) (hf : f.Wf) (s : Option Addr) (z c : Nat) (F : Nat → Nat → Int) (hz : z ≤ 2 ^ 63 - 1) (hi : InA ksScarecrow w s z F) (hg : WfS ksScarecrow z F) (A : Nat → Addr) (S0 : Sents w A) : Calls Tryd.prog 3 #[.agg (fcells f), .slice s z c] w fun e w' => e = .returned (.bool true) ∧ Below w.heap.size w w' := by
  have S : Hid (Sents w A) := Lib.hid S0
  clear S0
  have HI := Lib.hid hi
  have hz : Hid (Tryd.zeroCells25.size = 100) := Lib.hid (by rw [zeroS, acells_size])
  clear hi
  go_enter Tryd.func3, Tryd.ntmps3
  go_upto_region 1 with (fail)
  obtain ⟨W, hW, M⟩ := open1 w (fcells f) 27
  rw [hW]; clear hW
  by_cases hbig : 1048576 < z
  · go_wp2_with (go_at_call 12; refine (szScarecrowS_any z c (by omega) s _ (by omega) (by omega) (by omega) _).mono ?_; rintro e w' ⟨rfl, rfl⟩; rw [if_pos (by omega)])
    go_ret
    exact ⟨rfl, M.below⟩
  have hz2 : z ≤ 2 ^ 40 := by omega
  go_upto_region 5 with (go_at_call 12; refine (szScarecrowS_any z c (by omega) s _ (by omega) (by omega) (by omega) _).mono ?_; rintro e w' ⟨rfl, rfl⟩; rw [if_neg (by omega)])
  go_upto_region 6 with (first
    | (refine wpList_load_part rfl 27 _ rfl (w.heap.size) 0 rfl (fcells f) _ (M.at 0 rfl).whole Tryd.underlying27 rfl (by rw [fcells_size]; exact sizeFl) ?_)
    | (go_at_call 14; refine (toField _ _).mono ?_; rintro e W1 ⟨rfl, hb⟩; have M1 := M.call hb; clear M hb)
    | (go_at_call 15; refine (toScarecrowS_arg z hz2 F s c _ (HI.out.later M1.below)).mono ?_; rintro e W2 ⟨b2, rfl, I2, hb⟩; have M2 := M1.call hb; clear M1 hb)
    | (go_at_call 13; refine (specFearMap f hf z hz2 F hg b2 z _ I2).mono ?_; rintro e W3 ⟨rfl, hb⟩; have M3 := M2.call hb; clear M2 hb I2)
    | (refine wpList_store_row rfl 25 _ _ rfl W3.heap.size (acells .i16 100 (fearRow f z F)) rfl rfl 25 _ ((M3.alloc Tryd.zeroCells25 25).at 1 rfl) (by rw [acells_size]; exact sizeS) (by rw [acells_size, hz.out]) (acells_one _ _ _) ?_))
  have M4 := (M3.alloc Tryd.zeroCells25 25).row 1 rfl (acells .i16 100 (fearRow f z F))
  generalize World.setRow _ _ _ = W4 at M4 ⊢
  go_upto_region 7 with (go_at_call 15; refine (toScarecrowS_arg z hz2 F s c _ (HI.out.later M4.below)).mono ?_; rintro e W5 ⟨b5, rfl, I5, hb⟩; have M5 := M4.call hb; clear M4 hb; have J5 := Lib.hid I5; clear I5)
  go_upto_region 8 with (first
    | (refine wpList_load_part rfl 27 _ rfl (w.heap.size) 0 rfl (fcells f) _ (M5.at 0 rfl).whole Tryd.underlying27 rfl (by rw [fcells_size]; exact sizeFl) ?_)
    | (go_at_call 14; refine (toField _ _).mono ?_; rintro e W6 ⟨rfl, hb⟩; have M6 := M5.call hb; have J6 := Lib.hid (J5.out.later hb); clear M5 hb J5)
    | (go_at_call 16; refine (implFearMap f hf z hz2 F hg b5 z (Nat.le_refl _) A _ J6.out (S.out.later M6.below)).mono ?_; rintro e W7 ⟨rfl, hb⟩; have M7 := M6.call hb; have J7 := Lib.hid (J6.out.later hb); clear M6 hb J6)
    | (refine wpList_store_row rfl 25 _ _ rfl W7.heap.size (acells .i16 100 (fearRow f z F)) rfl rfl 25 _ ((M7.alloc Tryd.zeroCells25 25).at 2 rfl) (by rw [acells_size]; exact sizeS) (by rw [acells_size, hz.out]) (acells_one _ _ _) ?_))
  have M8 := (M7.alloc Tryd.zeroCells25 25).row 2 rfl (acells .i16 100 (fearRow f z F))
  have b8 : Below W7.heap.size W7 ((W7.alloc (.cells Tryd.zeroCells25 25)).setRow W7.heap.size (acells .i16 100 (fearRow f z F))) := below_row ((Below.refl _ _).alloc (Nat.le_refl _) _) (Nat.le_refl _) _
  have J8 := Lib.hid (J7.out.later b8)
  clear J7 b8
  generalize World.setRow _ _ _ = W8 at M8 J8 ⊢
  have ok1 : True := trivial
  have ok2 : True := trivial
  go_upto_region 10 with (first
    | (clear ok1; refine wpList_load_part rfl 25 _ rfl W7.heap.size 0 rfl (acells .i16 100 (fearRow f z F)) _ (M8.at 2 rfl).whole Tryd.underlying25 rfl (by rw [acells_size]; exact sizeS) ?_)
    | (clear ok2; refine wpList_load_part rfl 25 _ rfl W3.heap.size 0 rfl (acells .i16 100 (fearRow f z F)) _ (M8.at 1 rfl).whole Tryd.underlying25 rfl (by rw [acells_size]; exact sizeS) ?_)
    | (go_at_call 17; refine (eqInt16A100 (fearRow f z F) _).mono ?_; rintro e W9 ⟨rfl, hb⟩; have M9 := M8.call hb; have J9 := Lib.hid (J8.out.later hb); clear M8 hb J8; go_wp2_with fail))
  go_wp2_with (first
    | (go_at_call 15; refine (toScarecrowS_arg z hz2 F s c _ (HI.out.later M9.below)).mono ?_; rintro e W10 ⟨b10, rfl, I10, hb⟩; have M10 := M9.call hb; have J10 := Lib.hid (J9.out.later hb); clear M9 hb J9)
    | (go_at_call 18; refine (eqScarecrowS_same z hz2 F _ _ _ _ _ J10.out I10).mono ?_; rintro e W11 ⟨rfl, hb⟩; have M11 := M10.call hb))
  go_ret
  exact ⟨rfl, M11.below⟩
theorem trodVars_len {H : Type} {enc : TypeId × Value → H} {P : Program} {w : World} {sp : Nat → Bool} : ∀ {ns : List String} {gs : List (DataW H)} {ps : List MemPlace}, DataW.TrodVars enc P w sp ns gs ps → gs.length = ns.length
  | [], [], _, _ => rfl
  | [], _ :: _, _, h => h.elim
  | _ :: _, [], _, h => h.elim
  | _ :: _, _ :: _, _, ⟨_, _, _, _, _, _, _, _, _, _, h, _⟩ => congrArg (· + 1) (trodVars_len h)
theorem door_met (os : Os) (args : Array Value) : laidMetH Tryd.prog Rows.fnExactFearMapRow.laid ((World.doorLaid Tryd.prog 400 os).forCall (fun _ _ => 0) ⟨#[], args, []⟩).memory :=
  laidMetH_of_parts3 (fuel := 8) (laidMet_of_run' 8 (by kernel_rfl) (by kernel_rfl)) (by kernel_rfl) (by kernel_rfl)
set_option maxRecDepth 100000 in
theorem lifted (os : Os) (started : os.Started) (H : Type) (enc : TypeId × Value → H) :
    ReturnsInHanded {} Tryd.checked os 3 .any (fun w args => (Rows.fnExactFearMapSpec.pre enc Tryd.prog Tryd.f3 Rows.fnExactFearMapRow.domain false w args ∧ laidMetH Tryd.prog Rows.fnExactFearMapRow.laid w) ∧ sizedMet enc Tryd.prog Tryd.f3 (OpenSpec.ofChange Rows.fnExactFearMapSpec) false w args) (Rows.fnExactFearMapSpec.post enc Tryd.prog Tryd.f3 false true false false) := by
  refine returnsInHanded_of_change_and (C := Tryd.checked) (X := fun w _ => laidMetH Tryd.prog Rows.fnExactFearMapRow.laid w) (fun _ _ _ hh h => h.of_heap hh) own started (by kernel_rfl) Tryd.func3
    (ChangeSpec.witness_shaped (enc := enc) (C := Tryd.checked) (os := os) (X := fun w _ => laidMetH Tryd.prog Rows.fnExactFearMapRow.laid w) false (World.doorLaid Tryd.prog 400 os) #[.agg (fcells Fd.zero), .slice none 0 0] 8 rfl (World.shaped_of_RefB (by kernel_rfl) (by kernel_rfl)) (by kernel_rfl) (by kernel_rfl) (by kernel_rfl) (door_met os _)) ?_
  intro W base args ds gs before hval0 hW _ _ hL _
  have hval : ∀ (j : Nat) t v, Tryd.f3.params[j]? = some t → args[j]? = some v → Value.okWide Tryd.prog W .any base t v := hval0
  have hW' := hW
  obtain ⟨p, q, hA0, hV0, rfl, hfz, hnd⟩ := hW
  have hA : DataW.TrodAll enc Tryd.prog W 0 (fun _ => true) true Tryd.f3.params.toList args.toList ds p := hA0
  have hV : DataW.TrodVars enc Tryd.prog W (fun _ => true) Rows.fnExactFearMapSpec.vars gs q := hV0
  rw [Tryd.params3] at hA hval
  obtain ⟨v0, vs0, d0, ds0, p0, q0, hargs, rfl, rfl, h0, r0⟩ := trodAll_cons hA
  obtain ⟨v1, vs1, d1, ds1, p1, q1, rfl, rfl, rfl, h1, r1⟩ := trodAll_cons r0
  obtain ⟨rfl, rfl, rfl⟩ := trodAll_nil r1
  obtain rfl : args = #[v0, v1] := by cases args; simp_all
  rw [MakeChecks.laidMetH_plain _ _ _ (by kernel_rfl)] at hL
  obtain ⟨A, SV⟩ := sentVars (rest := []) hL
  have hlen := trodVars_len hV
  obtain ⟨gv1, gv2, gv3, gv4, gv5, gv6, gv7, gv8, rfl⟩ : ∃ gv1 gv2 gv3 gv4 gv5 gv6 gv7 gv8, gs = [gv1, gv2, gv3, gv4, gv5, gv6, gv7, gv8] := by
    match gs, hlen with
    | [gv1, gv2, gv3, gv4, gv5, gv6, gv7, gv8], _ => exact ⟨gv1, gv2, gv3, gv4, gv5, gv6, gv7, gv8, rfl⟩
  have k0 := h0
  have lt0 : ∀ x ∈ p0, x.block < W.heap.size := by obtain ⟨m, hm⟩ := k0; exact DataW.trod_lt m _ _ _ hm
  have k1 := h1
  have lt1 : ∀ x ∈ p1, x.block < W.heap.size := by obtain ⟨m, hm⟩ := k1; exact DataW.trod_lt m _ _ _ hm
  obtain ⟨f0, rfl, hf0⟩ := open_field (fs := Tryd.prog.fieldsOf 27) (by kernel_rfl) (by kernel_rfl) Tryd.underlying22 Tryd.underlying23 Tryd.underlying5 Tryd.underlying25 Tryd.underlying24 (by kernel_rfl) (by kernel_rfl) (by kernel_rfl) (by kernel_rfl) (by kernel_rfl) (by kernel_rfl) (hval 0 27 v0 rfl rfl) h0
  obtain ⟨s1, z1, c1, G1, rfl, hz1, hi1, hg1⟩ := open_ints (ks := ksScarecrow) (fs := Tryd.prog.fieldsOf 71) Tryd.underlying28 (by kernel_rfl) (by decide) (by kernel_rfl) (by kernel_rfl) (hval 1 28 v1 rfl rfl) h1
  clear hA0 hval0 hV0
  refine (walk W f0 hf0 s1 z1 c1 G1 (by simpa [maxLen] using hz1) hi1 hg1 A SV.sents).mono fun e W' ⟨he, bel⟩ => ?_
  subst he
  exact ⟨_, rfl, _, _, _, [], _, _, hW', trodAll_mk1 (shut_bool Tryd.underlying4 _), (trodAll_cons_mk (Below.trod laidOut (by kernel_rfl) (of_decide_eq_true (by kernel_rfl)) k0 bel lt0) (trodAll_cons_mk (Below.trod laidOut (by kernel_rfl) (of_decide_eq_true (by kernel_rfl)) k1 bel lt1) trodAll_mk0)), Below.trodVars laidOut bel (by kernel_rfl) hV, bel.frame _, fun h => by cases h⟩

theorem over : Rows.fnExactFearMapRow.holds Tryd.pinned (OpenSpec.ofChange Rows.fnExactFearMapSpec) :=
  OpenClaim.holds_of_wide 3 Tryd.f3 rfl rfl rfl rfl rfl rfl rfl ⟨rfl, rfl, rfl, rfl, rfl⟩ rfl rfl rfl rfl rfl (by kernel_rfl) Tryd.func3 (by kernel_rfl)
    (of_decide_eq_true (by kernel_rfl)) (by unfold Func.isWrapper; first | (rw [if_pos (by decide +kernel)]; kernel_rfl) | (rw [if_neg (by decide +kernel)]; exact ⟨rfl, rfl⟩))
    (fun os started H enc _ => lifted os started H enc)
theorem proved : Rows.FnExactFearMapCardSaid :=
  Claim7.holds_tied_plain_at .later [] [.sentinel, .sentinel, .sentinel, .sentinel, .sentinel, .sentinel, .sentinel, .sentinel] true (true, "2ef0efe3c10e24b18903b4a83b7c9f019ac16fe2d7bc9e790cc926e5091db74c") true
    over (fun _ h => by cases h) (by kernel_rfl) (fun _ h => by cases h) fnExactFearMap_row_tie rfl ⟨rfl, rfl⟩ (by kernel_rfl) rfl
    (fun f fn hf hfn => by
      obtain rfl : f = 3 := Option.some.inj ((show Tryd.prog.funcNamed "loop.example/g01338/laws.FnExactFearMap" = some 3 by kernel_rfl).symm.trans hf) |>.symm
      obtain rfl : fn = Tryd.f3 := (Option.some.inj (Tryd.func3.symm.trans hfn)).symm
      exact ⟨by kernel_rfl, fun j t ht => by
        rw [Tryd.params3] at ht
        have hm : t ∈ [27, 28] := by simpa using Array.mem_of_getElem? ht
        have hall : ([27, 28].all fun u => !Tryd.prog.wantsStandIn u) = true := by kernel_rfl
        exact (show Tryd.prog.wantsStandIn t = false by simpa using List.all_eq_true.1 hall t hm)⟩)
    (by kernel_rfl)
#print axioms proved
end Go.Proofs.YtpplakfmdjajiaaDoor.lawFearMap
