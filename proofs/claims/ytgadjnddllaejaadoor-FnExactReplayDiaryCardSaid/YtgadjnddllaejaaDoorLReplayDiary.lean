/-
  ReplayDiary: for all arguments the program answers as the model does, and the entries stay as they are: no condition beyond the listed variables, which the card ties to the program's text.
-/
import Derived.Test.YtgadjnddllaejaaDoorRplI
import Derived.Test.YtgadjnddllaejaaDoorLstE
import Derived.Test.YtgadjnddllaejaaDoorEqF
import Derived.Test.YtgadjnddllaejaaDoorLawh
import Derived.Test.YtgadjnddllaejaaDoorCoreB
import Derived.Test.YtgadjnddllaejaaDoorCard
import Derived.Test.YtgadjnddllaejaaDoorTie
import Derived.Test.YtgadjnddllaejaaDoorCards
import Derived.SevenTiedAt
import Derived.OpenVars
namespace Go.Proofs.YtgadjnddllaejaaDoor.lawReplayDiary
open Go Go.ChangeShapes Go.WideShapes Go.ChangeAt Go.RowKit

theorem eqInt64A4 (f : Nat → Int) (w : World) : Calls Tryd.prog 11 #[.agg (acells .i64 4 f), .agg (acells .i64 4 f)] w fun e w' => e = .returned (.bool true) ∧ Below w.heap.size w w' := by
  go_enter Tryd.func11, Tryd.ntmps11
  go_upto_region 1 with (fail)
  obtain ⟨W, hW, M⟩ := open2 w (acells .i64 4 f) 31 (acells .i64 4 f) 31
  rw [hW]; clear hW
  go_wp2_with fail
  go_loopw [5] (fun i wr => ∃ k : Nat, k ≤ 4 ∧ i = .int .i64 k ∧ Mem w wr [⟨w.heap.size, acells .i64 4 f, 31⟩, ⟨w.heap.size + 1, acells .i64 4 f, 31⟩]) (fun i _ => 4 - (intOf i).toNat)
  case atStart => exact ⟨0, by omega, rfl, M⟩
  case round =>
    clear M
    obtain ⟨k, hk, rfl, M⟩ := hrel
    by_cases hlt : k < 4
    · have c1 := (M.at 0 rfl).cell (acells_get _ _ _ k hlt)
      have c2 := (M.at 1 rfl).cell (acells_get _ _ _ k hlt)
      go_wp2_with fail
      go_quiet (fail)
      go_wp2_with fail
      go_roundw
      case rel => exact ⟨k + 1, by omega, by go_num, M.drewN _⟩
      case measure => simp [intOf]; omega
    · have hge : 4 ≤ k := by omega
      go_wp2_with fail
      go_ret
      exact ⟨rfl, M.below⟩
set_option maxRecDepth 100000 in
set_option maxHeartbeats 16000000 in
theorem walk (w : World) (f : Fd) (hff : f.Wf) (s : Option Addr) (z c : Nat) (F : Nat → Nat → Int) (hz : z ≤ 2 ^ 63 - 1) (hi : InA ksEntry w s z F) (hg9 : WfS ksEntry z F) (A : Nat → Addr) (S0 : Sents w A) :
    Calls Tryd.prog 3 #[.agg (fcells f), .slice s z c] w fun e w' => e = .returned (.bool true) ∧ Below w.heap.size w w' := by
  have S : Hid (Sents w A) := Lib.hid S0
  have HI := Lib.hid hi
  have hF : ∀ i, i < z → WfEn (F i) := fun i hi => ⟨bounds_i8 (hg9 i hi 0 (by decide)), bounds_i16 (hg9 i hi 1 (by decide)), bounds_i16 (hg9 i hi 2 (by decide))⟩
  clear S0 hi hg9
  by_cases hbig : 1048576 < z
  · go_enter Tryd.func3, Tryd.ntmps3
    go_upto_region 1 with (fail)
    obtain ⟨W, hW, M⟩ := open1 w (fcells f) 27
    rw [hW]; clear hW
    go_wp2_with (go_at_call 5; refine (szEntryS_any z c (by omega) s _ (by omega) (by omega) (by omega) _).mono ?_; rintro e w9 ⟨rfl, rfl⟩; rw [if_pos (by omega)])
    go_ret
    exact ⟨rfl, M.below⟩
  have q : z ≤ 2 ^ 40 := by omega
  have hz1 : Hid (Tryd.zeroCells30.size = 202) := Lib.hid (by rw [zeroFd, fcells_size])
  obtain ⟨hw, hh⟩ := rdF_size f hff z F
  have HS := Lib.hid (fun b w I => specReplayDiary f hff z q F hF b 0 z w I)
  have HP := Lib.hid (fun b w S I => implReplayDiary f hff z q F hF b 0 z A w S I)
  obtain ⟨FF, hFF⟩ : ∃ FF, rdF f z F = FF := ⟨_, rfl⟩
  obtain ⟨S9, hS9⟩ : ∃ S9, rdS f z F = S9 := ⟨_, rfl⟩
  obtain ⟨cd, hcd⟩ : ∃ cd, rdCode f z F = cd := ⟨_, rfl⟩
  rw [hFF, hS9, hcd] at HS HP
  rw [hFF] at hw hh
  clear hFF hS9 hcd hff hF
  go_enter Tryd.func3, Tryd.ntmps3
  go_upto_region 1 with (fail)
  obtain ⟨W, hW, M⟩ := open1 w (fcells f) 27
  rw [hW]; clear hW
  go_upto_region 5 with (go_at_call 5; refine (szEntryS_any z c (by omega) s _ (by omega) (by omega) (by omega) _).mono ?_; rintro e w9 ⟨rfl, rfl⟩; rw [if_neg (by omega)])
  go_upto_region 6 with (first
    | (refine wpList_load_part rfl 27 _ rfl w.heap.size 0 rfl (fcells f) _ (M.at 0 rfl).whole Tryd.underlying27 rfl (by rw [fcells_size]; exact sizeFl) ?_)
    | (go_at_call 7; refine (toField f _).mono ?_; rintro e W1 ⟨rfl, hb⟩; have M1 := M.call hb; clear hb M)
    | (go_at_call 8; refine (Eto_any z q F s c _ (HI.out.later M1.below)).mono ?_; rintro e W2 ⟨b2, rfl, I2, _, _, hb⟩; have M2 := M1.call hb; clear hb M1; have J2 := Lib.hid I2; clear I2)
    | (go_at_call 6; refine (HS.out b2 _ J2.out).mono ?_; rintro e W3 ⟨rfl, hb⟩; have M3 := M2.call hb; clear hb M2 J2; have MA := (M3.alloc Tryd.zeroCells30 30).alloc #[.int .i64 0, .int .i64 0, .int .i64 0, .int .i64 0] 31)
    | (refine wpList_store_row rfl 30 _ _ rfl W3.heap.size (fcells FF) rfl rfl 30 _ (MA.at 1 rfl) (by rw [fcells_size]; exact sizeFd) (by rw [hz1.out, fcells_size]) (fcells_one _) ?_; have MB := MA.row 1 rfl (fcells FF); clear MA)
    | (refine wpList_store_row rfl 31 _ _ rfl (W3.heap.size + 1) (acells .i64 4 S9) rfl rfl 31 _ (MB.at 2 (by simp only [World.size_alloc]; rfl)) (by rw [acells_size]; exact size4) (by rw [acells_size]; rfl) (acells_one _ _ _) ?_; have MC := MB.row 2 rfl (acells .i64 4 S9); clear MB))
  simp only [World.size_alloc] at MC
  obtain ⟨ns, hns⟩ : ∃ ns, W3.heap.size = ns := ⟨_, rfl⟩
  rw [hns] at MC ⊢
  generalize World.setRow _ _ _ = V1 at MC ⊢
  have N1 : Mem w V1 [⟨w.heap.size, fcells f, 27⟩, ⟨ns, fcells FF, 30⟩, ⟨ns + 1, acells .i64 4 S9, 31⟩] := MC
  clear MC hns M3
  go_upto_region 7 with (go_at_call 8; refine (Eto_any z q F s c _ (HI.out.later N1.below)).mono ?_; rintro e W5 ⟨b5, rfl, I5, _, _, hb⟩; have M5 := N1.call hb; clear hb N1; have J5 := Lib.hid I5; clear I5; have K5 := Mem.nil W5)
  go_upto_region 8 with (first
    | (refine wpList_load_part rfl 27 _ rfl w.heap.size 0 rfl (fcells f) _ (M5.at 0 rfl).whole Tryd.underlying27 rfl (by rw [fcells_size]; exact sizeFl) ?_)
    | (go_at_call 7; refine (toField f _).mono ?_; rintro e W6 ⟨rfl, hb⟩; have M6 := M5.call hb; have K6 := K5.call hb; clear hb M5 K5)
    | (go_at_call 9; refine (HP.out b5 _ (S.out.later M6.below) (J5.out.later K6.below)).mono ?_; rintro e W7 ⟨rfl, hb⟩; have M7 := M6.call hb; have K7 := K6.call hb; clear hb M6 K6; have MA := (M7.alloc Tryd.zeroCells30 30).alloc #[.int .i64 0, .int .i64 0, .int .i64 0, .int .i64 0] 31; have KA := (K7.alloc Tryd.zeroCells30 30).alloc #[.int .i64 0, .int .i64 0, .int .i64 0, .int .i64 0] 31)
    | (refine wpList_store_row rfl 30 _ _ rfl W7.heap.size (fcells FF) rfl rfl 30 _ (MA.at 3 rfl) (by rw [fcells_size]; exact sizeFd) (by rw [hz1.out, fcells_size]) (fcells_one _) ?_; have MB := MA.row 3 rfl (fcells FF); have KB := KA.row 0 rfl (fcells FF); clear MA KA)
    | (refine wpList_store_row rfl 31 _ _ rfl (W7.heap.size + 1) (acells .i64 4 S9) rfl rfl 31 _ (MB.at 4 (by simp only [World.size_alloc]; rfl)) (by rw [acells_size]; exact size4) (by rw [acells_size]; rfl) (acells_one _ _ _) ?_; have MC := MB.row 4 rfl (acells .i64 4 S9); have KC := KB.row 1 rfl (acells .i64 4 S9); clear MB KB))
  simp only [World.size_alloc] at MC KC
  have B7 := Lib.hid KC.below
  obtain ⟨ni, hni⟩ : ∃ ni, W7.heap.size = ni := ⟨_, rfl⟩
  rw [hni] at MC B7 ⊢
  clear KC K7
  generalize World.setRow _ _ _ = V2 at MC B7 ⊢
  have J7 := Lib.hid (J5.out.later B7.out)
  have N2 : Mem w V2 [⟨w.heap.size, fcells f, 27⟩, ⟨ns, fcells FF, 30⟩, ⟨ns + 1, acells .i64 4 S9, 31⟩, ⟨ni, fcells FF, 30⟩, ⟨ni + 1, acells .i64 4 S9, 31⟩] := MC
  clear MC hni J5 B7 M7
  have ok1 : True := trivial
  have ok2 : True := trivial
  have ok3 : True := trivial
  have ok4 : True := trivial
  go_upto_region 10 with (first
    | (clear ok1; refine wpList_load_part rfl 30 _ rfl ni 0 rfl (fcells FF) _ (N2.at 3 rfl).whole Tryd.underlying30 rfl (by rw [fcells_size]; exact sizeFd) ?_)
    | (clear ok2; refine wpList_load_part rfl 30 _ rfl ns 0 rfl (fcells FF) _ (N2.at 1 rfl).whole Tryd.underlying30 rfl (by rw [fcells_size]; exact sizeFd) ?_)
    | (go_at_call 10; refine (eqField_same FF hw hh _).mono ?_; rintro e W8 ⟨rfl, hb⟩; have M8 := N2.call hb; have J8 := Lib.hid (J7.out.later hb); clear N2 hb J7)
    | (clear ok3; refine wpList_load_wanted rfl 31 _ rfl (ni + 1) 0 rfl (acells .i64 4 S9) _ (M8.at 4 rfl).whole Tryd.underlying31 rfl (by rw [acells_size]; exact size4) ?_)
    | (clear ok4; refine wpList_load_wanted rfl 31 _ rfl (ns + 1) 0 rfl (acells .i64 4 S9) _ (M8.at 2 rfl).whole Tryd.underlying31 rfl (by rw [acells_size]; exact size4) ?_)
    | (go_at_call 11; refine (eqInt64A4 S9 _).mono ?_; rintro e W9 ⟨rfl, hb⟩; have M9 := M8.call hb; have J9 := Lib.hid (J8.out.later hb); clear M8 hb J8))
  go_wp2_with (first
    | (go_at_call 8; refine (Eto_any z q F s c _ (HI.out.later M9.below)).mono ?_; rintro e W10 ⟨b10, rfl, I10, _, _, hb⟩; have M10 := M9.call hb; have J10 := Lib.hid (J9.out.later hb); clear M9 hb J9)
    | (go_at_call 12; refine (Eeq_some z q F _ _ _ _ _ _ _ J10.out I10).mono ?_; rintro e W11 ⟨rfl, hb⟩; have M11 := M10.call hb))
  go_ret
  exact ⟨rfl, M11.below⟩
theorem trodVars_len {H : Type} {enc : TypeId × Value → H} {P : Program} {w : World} {sp : Nat → Bool} : ∀ {ns : List String} {gs : List (DataW H)} {ps : List MemPlace}, DataW.TrodVars enc P w sp ns gs ps → gs.length = ns.length
  | [], [], _, _ => rfl
  | [], _ :: _, _, h => h.elim
  | _ :: _, [], _, h => h.elim
  | _ :: _, _ :: _, _, ⟨_, _, _, _, _, _, _, _, _, _, h, _⟩ => congrArg (· + 1) (trodVars_len h)
theorem door_met (os : Os) (args : Array Value) : laidMetH Tryd.prog Rows.fnExactReplayDiaryRow.laid ((World.doorLaid Tryd.prog 400 os).forCall (fun _ _ => 0) ⟨#[], args, []⟩).memory :=
  laidMetH_of_parts3 (fuel := 8) (laidMet_of_run' 8 (by kernel_rfl) (by kernel_rfl)) (by kernel_rfl) (by kernel_rfl)
set_option maxRecDepth 100000 in
theorem lifted (os : Os) (started : os.Started) (H : Type) (enc : TypeId × Value → H) :
    ReturnsInHanded {} Tryd.checked os 3 .any (fun w args => (Rows.fnExactReplayDiarySpec.pre enc Tryd.prog Tryd.f3 Rows.fnExactReplayDiaryRow.domain false w args ∧ laidMetH Tryd.prog Rows.fnExactReplayDiaryRow.laid w) ∧ sizedMet enc Tryd.prog Tryd.f3 (OpenSpec.ofChange Rows.fnExactReplayDiarySpec) false w args) (Rows.fnExactReplayDiarySpec.post enc Tryd.prog Tryd.f3 false true false false) := by
  refine returnsInHanded_of_change_and (C := Tryd.checked) (X := fun w _ => laidMetH Tryd.prog Rows.fnExactReplayDiaryRow.laid w) (fun _ _ _ hh h => h.of_heap hh) own started (by kernel_rfl) Tryd.func3
    (ChangeSpec.witness_shaped (enc := enc) (C := Tryd.checked) (os := os) (X := fun w _ => laidMetH Tryd.prog Rows.fnExactReplayDiaryRow.laid w) false (World.doorLaid Tryd.prog 400 os) #[.agg (fcells Fd.zero), .slice none 0 0] 8 rfl (World.shaped_of_RefB (by kernel_rfl) (by kernel_rfl)) (by kernel_rfl) (by kernel_rfl) (by kernel_rfl) (door_met os _)) ?_
  intro W base args ds gs before hval0 hW _ _ hL _
  have hval : ∀ (j : Nat) t v, Tryd.f3.params[j]? = some t → args[j]? = some v → Value.okWide Tryd.prog W .any base t v := hval0
  have hW' := hW
  obtain ⟨p, q, hA0, hV0, rfl, hfz, hnd⟩ := hW
  have hA : DataW.TrodAll enc Tryd.prog W 0 (fun _ => true) true Tryd.f3.params.toList args.toList ds p := hA0
  have hV : DataW.TrodVars enc Tryd.prog W (fun _ => true) Rows.fnExactReplayDiarySpec.vars gs q := hV0
  rw [Tryd.params3] at hA hval
  obtain ⟨v0, vs0, d0, ds0, p0, q0, hargs, rfl, rfl, h0, r0⟩ := trodAll_cons hA
  obtain ⟨v1, vs1, d1, ds1, p1, q1, rfl, rfl, rfl, h1, r1⟩ := trodAll_cons r0
  obtain ⟨rfl, rfl, rfl⟩ := trodAll_nil r1
  obtain rfl : args = #[v0, v1] := by cases args; simp_all
  rw [MakeChecks.laidMetH_plain _ _ _ (by kernel_rfl)] at hL
  obtain ⟨A, SV⟩ := sentVars (rest := []) hL
  have hlen := trodVars_len hV
  obtain ⟨gv1, gv2, gv3, gv4, gv5, gv6, gv7, gv8, rfl⟩ : ∃ gv1 gv2 gv3 gv4 gv5 gv6 gv7 gv8, gs = [gv1, gv2, gv3, gv4, gv5, gv6, gv7, gv8] := by
    match gs, hlen with
    | [gv1, gv2, gv3, gv4, gv5, gv6, gv7, gv8], _ => exact ⟨gv1, gv2, gv3, gv4, gv5, gv6, gv7, gv8, rfl⟩
  have k0 := h0
  have lt0 : ∀ x ∈ p0, x.block < W.heap.size := by obtain ⟨m, hm⟩ := k0; exact DataW.trod_lt m _ _ _ hm
  have k1 := h1
  have lt1 : ∀ x ∈ p1, x.block < W.heap.size := by obtain ⟨m, hm⟩ := k1; exact DataW.trod_lt m _ _ _ hm
  obtain ⟨f0, rfl, hf0⟩ := open_field (fs := Tryd.prog.fieldsOf 27) (by kernel_rfl) (by kernel_rfl) Tryd.underlying22 Tryd.underlying23 Tryd.underlying5 Tryd.underlying25 Tryd.underlying24 (by kernel_rfl) (by kernel_rfl) (by kernel_rfl) (by kernel_rfl) (by kernel_rfl) (by kernel_rfl) (hval 0 27 v0 rfl rfl) h0
  obtain ⟨s1, z1, c1, G1, rfl, hz1, hi1, hg1⟩ := open_ints (ks := ksEntry) (fs := Tryd.prog.fieldsOf 52) Tryd.underlying28 (by kernel_rfl) (by decide) (by kernel_rfl) (by kernel_rfl) (hval 1 28 v1 rfl rfl) h1
  clear hA0 hval0 hV0
  refine (walk W f0 hf0 s1 z1 c1 G1 (by simpa [maxLen] using hz1) hi1 hg1 A SV.sents).mono fun e W' ⟨he, bel⟩ => ?_
  subst he
  exact ⟨_, rfl, _, _, _, [], _, _, hW', trodAll_mk1 (shut_bool Tryd.underlying4 _), (trodAll_cons_mk (Below.trod laidOut (by kernel_rfl) (of_decide_eq_true (by kernel_rfl)) k0 bel lt0) (trodAll_cons_mk (Below.trod laidOut (by kernel_rfl) (of_decide_eq_true (by kernel_rfl)) k1 bel lt1) trodAll_mk0)), Below.trodVars laidOut bel (by kernel_rfl) hV, bel.frame _, fun h => by cases h⟩

theorem over : Rows.fnExactReplayDiaryRow.holds Tryd.pinned (OpenSpec.ofChange Rows.fnExactReplayDiarySpec) :=
  OpenClaim.holds_of_wide 3 Tryd.f3 rfl rfl rfl rfl rfl rfl rfl ⟨rfl, rfl, rfl, rfl, rfl⟩ rfl rfl rfl rfl rfl (by kernel_rfl) Tryd.func3 (by kernel_rfl)
    (of_decide_eq_true (by kernel_rfl)) (by unfold Func.isWrapper; first | (rw [if_pos (by decide +kernel)]; kernel_rfl) | (rw [if_neg (by decide +kernel)]; exact ⟨rfl, rfl⟩))
    (fun os started H enc _ => lifted os started H enc)
theorem proved : Rows.FnExactReplayDiaryCardSaid :=
  Claim7.holds_tied_plain_at .later [] [.sentinel, .sentinel, .sentinel, .sentinel, .sentinel, .sentinel, .sentinel, .sentinel] true (true, "b949d7b90ddb8c71f5f48161d431279e286b360d02ba28246a4e731d4aeb207d") true
    over (fun _ h => by cases h) (by kernel_rfl) (fun _ h => by cases h) fnExactReplayDiary_row_tie rfl ⟨rfl, rfl⟩ (by kernel_rfl) rfl
    (fun f fn hf hfn => by
      obtain rfl : f = 3 := Option.some.inj ((show Tryd.prog.funcNamed "loop.example/g01338/laws.FnExactReplayDiary" = some 3 by kernel_rfl).symm.trans hf) |>.symm
      obtain rfl : fn = Tryd.f3 := (Option.some.inj (Tryd.func3.symm.trans hfn)).symm
      exact ⟨by kernel_rfl, fun j t ht => by
        rw [Tryd.params3] at ht
        have hm : t ∈ [27, 28] := by simpa using Array.mem_of_getElem? ht
        have hall : ([27, 28].all fun u => !Tryd.prog.wantsStandIn u) = true := by kernel_rfl
        exact (show Tryd.prog.wantsStandIn t = false by simpa using List.all_eq_true.1 hall t hm)⟩)
    (by kernel_rfl)
#print axioms proved
end Go.Proofs.YtgadjnddllaejaaDoor.lawReplayDiary
