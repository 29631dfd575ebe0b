/-
  ValidScares: for all fields (valid or not) and all lists of scarecrows, the program answers as the model does: no condition beyond the listed sentinels, which the card ties to the program's text.
-/
import Derived.Test.YtfnpbpokieckcaaDoorScrIn
import Derived.Test.YtfnpbpokieckcaaDoorScrV
import Derived.Test.YtfnpbpokieckcaaDoorCard24
import Derived.Test.YtfnpbpokieckcaaDoorLawh
import Derived.Test.YtfnpbpokieckcaaDoorRows
import Derived.Test.YtfnpbpokieckcaaDoorCards
import Derived.Test.YtfnpbpokieckcaaDoorTie
import Derived.ChangeOld
import Derived.Below
import Derived.MakeChecks
import Derived.Stop.Joined
import Derived.SevenTiedAt
import Derived.ProofKit
import Derived.LaidMore
import Derived.OpenVars
import Derived.OpenShut
namespace Go.Proofs.YtfnpbpokieckcaaDoor.lawValidScares
open Go Go.ChangeShapes Go.WideShapes Go.ChangeAt Go.RowKit


theorem sz_big (n c : Nat) (hn : n ≤ 9223372036854775807) (p : Option Addr) (left : Int) (h0 : 0 ≤ left) (h2 : left ≤ 9223372036854775807) (h : left < n) (w : World) : Calls Tryd.prog 28 #[.slice p n c, .int .i64 left] w fun e w' => e = .returned (.int .i64 (-1)) ∧ w = w' := by
  have := szScarecrowS_any n c hn p left (by omega) (by omega) h2 w
  rwa [if_pos (by omega)] at this
theorem sz_small (n c : Nat) (hn : n ≤ 9223372036854775807) (p : Option Addr) (left : Int) (h0 : 0 ≤ left) (h2 : left ≤ 9223372036854775807) (h : (n : Int) ≤ left) (w : World) : Calls Tryd.prog 28 #[.slice p n c, .int .i64 left] w fun e w' => e = .returned (.int .i64 (left - n)) ∧ w = w' := by
  have := szScarecrowS_any n c hn p left (by omega) (by omega) h2 w
  rwa [if_neg (by omega)] at this

set_option maxRecDepth 100000 in
set_option maxHeartbeats 2000000 in
theorem walk (w : World) (f : Fd) (hf : f.Wf) (p : Option Addr) (n c : Nat) (F : Nat → Nat → Int) (hn : n ≤ 9223372036854775807) (IA : InA ksScarecrow w p n F) (hF : WfS ksScarecrow n F) (A : Nat → Addr) (T : Sent24 w A) :
    Calls Tryd.prog 9 #[.agg (fcells f), .slice p n c] w fun e w' => e = .returned (.bool true) ∧ Below w.heap.size w w' := by
  go_enter Tryd.func9, Tryd.ntmps9
  go_upto_region 1 with (fail)
  obtain ⟨W, hW, M⟩ := open1 w (fcells f) 27
  rw [hW]; clear hW
  have M0 := Lib.hid M
  have HA0 := Lib.hid (IA.later M.below)
  have HT0 := Lib.hid (T.later M.below)
  clear M IA T
  by_cases h1 : (1048576 : Int) < n
  · go_wp2_with (go_at_call 28; refine (sz_big n c hn p 1048576 (by omega) (by omega) h1 _).mono ?_; rintro e w' ⟨rfl, rfl⟩)
    go_ret
    exact ⟨rfl, M0.out.below⟩
  have h1' : (n : Int) ≤ 1048576 := by omega
  clear h1
  have ok1 : True := trivial
  have ok2 : True := trivial
  have ok3 : True := trivial
  have ok4 : True := trivial
  have ok5 : True := trivial
  have ok6 : True := trivial
  have ok7 : True := trivial
  have ok8 : True := trivial
  have ok9 : True := trivial
  have ok10 : True := trivial
  have ok11 : True := trivial
  go_wp2_with first
    | (clear ok1; go_at_call 28; refine (sz_small n c hn p 1048576 (by omega) (by omega) h1' _).mono ?_; rintro e w' ⟨rfl, rfl⟩)
    | (clear ok2; refine wpList_load_part rfl 27 _ rfl w.heap.size 0 rfl (fcells f) _ (M0.out.at 0 rfl).whole Tryd.underlying27 rfl (by rw [fcells_size]; exact sizeFl) ?_)
    | (clear ok3; go_at_call 11; refine (toField f _).mono ?_; rintro e w1 ⟨rfl, hb⟩; have M1 := Lib.hid (M0.out.call hb); have HA1 := Lib.hid (HA0.out.later hb); have HT1 := Lib.hid (HT0.out.later hb); clear M0 HA0 HT0 ; clear hb)
    | (clear ok4; go_at_call 30; refine (toScarecrowS_arg n (by omega) F p c _ HA1.out).mono ?_; rintro e w2 ⟨b2, rfl, J, hb⟩; have I2 := Lib.hid J; clear J; have M2 := Lib.hid (M1.out.call hb); have HA2 := Lib.hid (HA1.out.later hb); have HT2 := Lib.hid (HT1.out.later hb); clear M1 HA1 HT1 ; clear hb)
    | (clear ok5; go_at_call 29; refine (specValidScares f hf n (by omega) F hF b2 _ _ I2.out).mono ?_; rintro e w3 ⟨rfl, hb⟩; have M3 := Lib.hid (M2.out.call hb); have HA3 := Lib.hid (HA2.out.later hb); have HT3 := Lib.hid (HT2.out.later hb); clear M2 HA2 HT2 ; clear hb I2)
    | (clear ok6; go_at_call 30; refine (toScarecrowS_arg n (by omega) F p c _ HA3.out).mono ?_; rintro e w4 ⟨b4, rfl, J, hb⟩; have I4 := Lib.hid J; clear J; have M4 := Lib.hid (M3.out.call hb); have HA4 := Lib.hid (HA3.out.later hb); have HT4 := Lib.hid (HT3.out.later hb); clear M3 HA3 HT3 ; clear hb)
    | (clear ok7; refine wpList_load_part rfl 27 _ rfl w.heap.size 0 rfl (fcells f) _ (M4.out.at 0 rfl).whole Tryd.underlying27 rfl (by rw [fcells_size]; exact sizeFl) ?_)
    | (clear ok8; go_at_call 11; refine (toField f _).mono ?_; rintro e w5 ⟨rfl, hb⟩; have M5 := Lib.hid (M4.out.call hb); have HA5 := Lib.hid (HA4.out.later hb); have HT5 := Lib.hid (HT4.out.later hb); have I5 := Lib.hid (I4.out.later hb); clear M4 HA4 HT4 I4; clear hb)
    | (clear ok9; go_at_call 31; refine (implValidScares f hf n (by omega) F hF b4 _ (by omega) A _ HT5.out I5.out).mono ?_; rintro e w6 ⟨rfl, hb⟩; have M6 := Lib.hid (M5.out.call hb); have HA6 := Lib.hid (HA5.out.later hb); have HT6 := Lib.hid (HT5.out.later hb); have I6 := Lib.hid (I5.out.later hb); clear M5 HA5 HT5 I5; clear hb)
    | (clear ok10; go_at_call 30; refine (toScarecrowS_arg n (by omega) F p c _ HA6.out).mono ?_; rintro e w7 ⟨b7, rfl, J, hb⟩; have N7 := Lib.hid J; clear J; have M7 := Lib.hid (M6.out.call hb); have HA7 := Lib.hid (HA6.out.later hb); have HT7 := Lib.hid (HT6.out.later hb); have I7 := Lib.hid (I6.out.later hb); clear M6 HA6 HT6 I6; clear hb)
    | (clear ok11; go_at_call 32; refine (eqScarecrowS_same n (by omega) F b4 b7 _ _ _ I7.out N7.out).mono ?_; rintro e w8 ⟨rfl, hb⟩; have M8 := Lib.hid (M7.out.call hb); clear hb)
  go_ret
  exact ⟨rfl, M8.out.below⟩

theorem trodVars_len {H : Type} {enc : TypeId × Value → H} {P : Program} {w : World} {sp : Nat → Bool} : ∀ {ns : List String} {gs : List (DataW H)} {ps : List MemPlace}, DataW.TrodVars enc P w sp ns gs ps → gs.length = ns.length
  | [], [], _, _ => rfl
  | [], _ :: _, _, h => h.elim
  | _ :: _, [], _, h => h.elim
  | _ :: _, _ :: _, _, ⟨_, _, _, _, _, _, _, _, _, _, h, _⟩ => congrArg (· + 1) (trodVars_len h)
theorem door_met (os : Os) (args : Array Value) : laidMetH Tryd.prog Rows.fnExactValidScaresRow.laid ((World.doorLaid Tryd.prog 400 os).forCall (fun _ _ => 0) ⟨#[], args, []⟩).memory :=
  laidMetH_of_parts3 (fuel := 8) (laidMet_of_run' 8 (by kernel_rfl) (by kernel_rfl)) (by kernel_rfl) (by kernel_rfl)
set_option maxRecDepth 100000 in
theorem lifted (os : Os) (started : os.Started) (H : Type) (enc : TypeId × Value → H) :
    ReturnsInHanded {} Tryd.checked os 9 .any (fun w args => (Rows.fnExactValidScaresSpec.pre enc Tryd.prog Tryd.f9 Rows.fnExactValidScaresRow.domain false w args ∧ laidMetH Tryd.prog Rows.fnExactValidScaresRow.laid w) ∧ sizedMet enc Tryd.prog Tryd.f9 (OpenSpec.ofChange Rows.fnExactValidScaresSpec) false w args) (Rows.fnExactValidScaresSpec.post enc Tryd.prog Tryd.f9 false true false false) := by
  refine returnsInHanded_of_change_and (C := Tryd.checked) (X := fun w _ => laidMetH Tryd.prog Rows.fnExactValidScaresRow.laid w) (fun _ _ _ hh h => h.of_heap hh) own started (by kernel_rfl) Tryd.func9
    (ChangeSpec.witness_shaped (enc := enc) (C := Tryd.checked) (os := os) (X := fun w _ => laidMetH Tryd.prog Rows.fnExactValidScaresRow.laid w) false (World.doorLaid Tryd.prog 400 os) #[.agg (fcells Fd.zero), .slice none 0 0] 8 rfl (World.shaped_of_RefB (by kernel_rfl) (by kernel_rfl)) (by kernel_rfl) (by kernel_rfl) (by kernel_rfl) (door_met os _)) ?_
  intro W base args ds gs before hval0 hW _ _ hL _
  have hval : ∀ (j : Nat) t v, Tryd.f9.params[j]? = some t → args[j]? = some v → Value.okWide Tryd.prog W .any base t v := hval0
  have hW' := hW
  obtain ⟨p, q, hA0, hV0, rfl, hfz, hnd⟩ := hW
  have hA : DataW.TrodAll enc Tryd.prog W 0 (fun _ => true) true Tryd.f9.params.toList args.toList ds p := hA0
  have hV : DataW.TrodVars enc Tryd.prog W (fun _ => true) Rows.fnExactValidScaresSpec.vars gs q := hV0
  rw [Tryd.params9] at hA hval
  obtain ⟨v0, vs0, d0, ds0, p0, q0, hargs, rfl, rfl, h0, r0⟩ := trodAll_cons hA
  obtain ⟨v1, vs1, d1, ds1, p1, q1, rfl, rfl, rfl, h1, r1⟩ := trodAll_cons r0
  obtain ⟨rfl, rfl, rfl⟩ := trodAll_nil r1
  obtain rfl : args = #[v0, v1] := by cases args; simp_all
  rw [MakeChecks.laidMetH_plain _ _ _ (by kernel_rfl)] at hL
  obtain ⟨A, S2⟩ := sent24_of hL
  have hlen := trodVars_len hV
  obtain ⟨g1, g2, rfl⟩ : ∃ g1 g2, gs = [g1, g2] := by
    match gs, hlen with
    | [g1, g2], _ => exact ⟨g1, g2, rfl⟩
  have k0 := h0
  have lt0 : ∀ x ∈ p0, x.block < W.heap.size := by obtain ⟨m, hm⟩ := k0; exact DataW.trod_lt m _ _ _ hm
  have k1 := h1
  have lt1 : ∀ x ∈ p1, x.block < W.heap.size := by obtain ⟨m, hm⟩ := k1; exact DataW.trod_lt m _ _ _ hm
  obtain ⟨f0, rfl, hf0⟩ := open_field (fs := Tryd.prog.fieldsOf 27) (by kernel_rfl) (by kernel_rfl) Tryd.underlying22 Tryd.underlying23 Tryd.underlying5 Tryd.underlying25 Tryd.underlying24 (by kernel_rfl) (by kernel_rfl) (by kernel_rfl) (by kernel_rfl) (by kernel_rfl) (by kernel_rfl) (hval 0 27 v0 rfl rfl) h0
  obtain ⟨s1, z1, c1, G1, rfl, hz1, hi1, hg1⟩ := open_ints (ks := ksScarecrow) (fs := Tryd.prog.fieldsOf 93) Tryd.underlying52 (by kernel_rfl) (by decide) (by kernel_rfl) (by kernel_rfl) (hval 1 52 v1 rfl rfl) h1
  clear hA0 hval0 hV0
  refine (walk W f0 hf0 s1 z1 c1 G1 (by simpa [maxLen] using hz1) hi1 hg1 A S2).mono fun e W' ⟨he, bel⟩ => ?_
  subst he
  exact ⟨_, rfl, _, _, _, [], _, _, hW', trodAll_mk1 (shut_bool Tryd.underlying4 _), (trodAll_cons_mk (Below.trod laidOut (by kernel_rfl) (of_decide_eq_true (by kernel_rfl)) k0 bel lt0) (trodAll_cons_mk (Below.trod laidOut (by kernel_rfl) (of_decide_eq_true (by kernel_rfl)) k1 bel lt1) trodAll_mk0)), Below.trodVars laidOut bel (by kernel_rfl) hV, bel.frame _, fun h => by cases h⟩

theorem over : Rows.fnExactValidScaresRow.holds Tryd.pinned (OpenSpec.ofChange Rows.fnExactValidScaresSpec) :=
  OpenClaim.holds_of_wide 9 Tryd.f9 rfl rfl rfl rfl rfl rfl rfl ⟨rfl, rfl, rfl, rfl, rfl⟩ rfl rfl rfl rfl rfl (by kernel_rfl) Tryd.func9 (by kernel_rfl)
    (of_decide_eq_true (by kernel_rfl)) (by unfold Func.isWrapper; first | (rw [if_pos (by decide +kernel)]; kernel_rfl) | (rw [if_neg (by decide +kernel)]; exact ⟨rfl, rfl⟩))
    (fun os started H enc _ => lifted os started H enc)
theorem proved : Rows.FnExactValidScaresCardSaid :=
  Claim7.holds_tied_plain_at .later [] [.sentinel, .sentinel] true (true, "52f2706e49e283a3999610fcc72696525525ceb0d6035d4c14edcacf0f364069") true
    over (fun _ h => by cases h) (by kernel_rfl) (fun _ h => by cases h) fnExactValidScares_row_tie rfl ⟨rfl, rfl⟩ (by kernel_rfl) rfl
    (fun f fn hf hfn => by
      obtain rfl : f = 9 := Option.some.inj ((show Tryd.prog.funcNamed "loop.example/g01338/laws.FnExactValidScares" = some 9 by kernel_rfl).symm.trans hf) |>.symm
      obtain rfl : fn = Tryd.f9 := (Option.some.inj (Tryd.func9.symm.trans hfn)).symm
      exact ⟨by kernel_rfl, fun j t ht => by
        rw [Tryd.params9] at ht
        have hm : t ∈ [27, 52] := by simpa using Array.mem_of_getElem? ht
        have hall : ([27, 52].all fun u => !Tryd.prog.wantsStandIn u) = true := by kernel_rfl
        exact (show Tryd.prog.wantsStandIn t = false by simpa using List.all_eq_true.1 hall t hm)⟩)
    (by kernel_rfl)
#print axioms proved
end Go.Proofs.YtfnpbpokieckcaaDoor.lawValidScares
