/-
  CheckPlaces: for all arguments the program answers as the model does: no condition beyond the listed sentinels, which the card ties to the program's text.
-/
import Derived.Test.YteclngooblafoaaDoorCkO
import Derived.Test.YteclngooblafoaaDoorLstN
import Derived.Test.YteclngooblafoaaDoorCoreB
import Derived.Test.YteclngooblafoaaDoorLawh
import Derived.Test.YteclngooblafoaaDoorCard
import Derived.Test.YteclngooblafoaaDoorTie
import Derived.Test.YteclngooblafoaaDoorCards
import Derived.SevenTiedAt
import Derived.OpenVars
import Derived.ChangeOld
import Derived.Below
namespace Go.Proofs.YteclngooblafoaaDoor.lawCheckPlaces
open Go Go.ChangeShapes Go.WideShapes Go.ChangeAt Go.RowKit

set_option maxRecDepth 100000 in
set_option maxHeartbeats 16000000 in
theorem walk (w : World) (f : Fd) (hff : f.Wf) (x : Int) (wx : (Lit.int .i64 x).wf = true) (y : Int) (wy : (Lit.int .i64 y).wf = true) (t : Nat → Int) (ht : ∀ i, i < 2 → (Lit.int .u64 (t i)).wf = true) (sh : Option Addr) (zh ch : Nat) (h : Nat → Int) (hzh : zh ≤ 2 ^ 63 - 1) (hih : InJ w sh zh h) (hgh : Wf64 zh h) (A : Nat → Addr) (S0 : Sents w A) :
    Calls Tryd.prog 3 #[.agg (fcells f), .int .i64 x, .int .i64 y, .agg (acells .u64 2 t), .slice sh zh ch] w fun e w' => e = .returned (.bool true) ∧ Below w.heap.size w w' := by
  have S : Hid (Sents w A) := Lib.hid S0
  clear S0
  obtain ⟨x1, x2⟩ := bounds_i64 wx
  obtain ⟨y1, y2⟩ := bounds_i64 wy
  have Hhih := Lib.hid hih
  have Hhgh := Lib.hid hgh
  clear hih hgh
  by_cases hbh : 1048576 < zh
  · have th : decide (1048576 < (zh : Int)) = true := decide_eq_true (by omega)
    go_enter Tryd.func3, Tryd.ntmps3
    go_upto_region 1 with (fail)
    obtain ⟨W0, hW, M0⟩ := open2 w (fcells f) 27 (acells .u64 2 t) 29
    rw [hW]; clear hW
    go_wp2_with (fail)
    go_ret
    exact ⟨rfl, M0.below⟩
  have qh : zh ≤ 2 ^ 40 := by omega
  have th : decide (1048576 < (zh : Int)) = false := decide_eq_false (by omega)
  go_enter Tryd.func3, Tryd.ntmps3
  go_upto_region 1 with (fail)
  obtain ⟨W0, hW, M0⟩ := open2 w (fcells f) 27 (acells .u64 2 t) 29
  rw [hW]; clear hW
  go_upto_region 3 with (fail)
  refine wp_region_rel (DL [dV (.agg (fcells f)), dV (.agg (fcells f)), dV (.int .i64 x), dV (.int .i64 y), dV (.agg (acells .u64 2 (t))), dV (.agg (acells .u64 2 t)), dV (.slice sh zh ch), dP (fun v _ _ w9 => ∃ b, v = .slice (some ⟨b, 0, none⟩) zh zh ∧ InI w9 b 0 zh h), dV (.tuple #[.bool (ckVal f x y t zh h), .int .i64 (ckCode f x y)]), dV (.tuple #[.bool (ckVal f x y t zh h), .int .i64 (ckCode f x y)]), dV (.bool (ckVal f x y t zh h)), dV (.int .i64 (ckCode f x y)), dV (.bool (ckVal f x y t zh h)), dV (.int .i64 (ckCode f x y))]) (fun w' => Mem w w' [⟨w.heap.size, fcells f, 27⟩, ⟨w.heap.size + 1, acells .u64 2 (t), 29⟩]) (by kernel_rfl) (by kernel_rfl) grows_mem
    (stays_DL (fun d hd => by
      simp only [List.mem_cons, List.mem_nil_iff, or_false] at hd
      rcases hd with rfl | rfl | rfl | rfl | rfl | rfl | rfl | rfl | rfl | rfl | rfl | rfl | rfl | rfl <;> first | exact stay_V | exact stay_P)) M0.drew ?_
  refine rel_load 27 _ rfl (w.heap.size) (0) rfl (fcells f) _ rfl rfl (fun w' hw' => (hw'.at 0 rfl).whole) Tryd.underlying27 rfl (by rw [fcells_size]; exact sizeFl) (fun _ => ?_)
  simp only [Act.put, List.setIfInBounds_toArray, List.set_cons_zero, List.set_cons_succ]
  refine rel_call (.agg (fcells f)) 6 #[.agg (fcells f)] rfl rfl rfl rfl (enters_of Tryd.func6 (by kernel_rfl) rfl) (fun w' _ => toField f w') (fun _ => ?_)
  simp only [Act.put, List.setIfInBounds_toArray, List.set_cons_zero, List.set_cons_succ]
  refine rel_val _ rfl rfl (fun _ _ => rfl) (fun _ => ?_)
  simp only [Act.put, List.setIfInBounds_toArray, List.set_cons_zero, List.set_cons_succ]
  refine rel_val _ rfl rfl (fun _ _ => rfl) (fun _ => ?_)
  simp only [Act.put, List.setIfInBounds_toArray, List.set_cons_zero, List.set_cons_succ]
  refine rel_load 29 _ rfl (w.heap.size + 1) (0) rfl (acells .u64 2 (t)) _ rfl rfl (fun w' hw' => (hw'.at 1 rfl).whole) Tryd.underlying29 rfl (by rw [acells_size]; exact sizeA) (fun _ => ?_)
  simp only [Act.put, List.setIfInBounds_toArray, List.set_cons_zero, List.set_cons_succ]
  refine rel_call (.agg (acells .u64 2 t)) 7 #[.agg (acells .u64 2 t)] rfl rfl rfl rfl (enters_of Tryd.func7 (by kernel_rfl) rfl) (fun w' _ => toCells t w') (fun _ => ?_)
  simp only [Act.put, List.setIfInBounds_toArray, List.set_cons_zero, List.set_cons_succ]
  refine rel_val _ rfl rfl (fun _ _ => rfl) (fun _ => ?_)
  simp only [Act.put, List.setIfInBounds_toArray, List.set_cons_zero, List.set_cons_succ]
  refine rel_callP _ 8 #[.slice sh zh ch] rfl rfl rfl rfl (enters_of Tryd.func8 (by kernel_rfl) rfl) (fun w' hw' => (Nto_any zh qh h sh ch w' (Hhih.out.later hw'.below)).mono (fun e w2 h => by
    obtain ⟨b, rfl, I, _, _, hb⟩ := h
    exact ⟨_, rfl, hb, fun w3 hb3 => ⟨b, rfl, I.later hb3⟩⟩)) (fun v lo hi _ hv => ?_)
  obtain ⟨_, _, b2, rfl, _⟩ := hv
  simp only [Act.put, List.setIfInBounds_toArray, List.set_cons_zero, List.set_cons_succ]
  refine rel_callK 7 (.tuple #[.bool (ckVal f x y t zh h), .int .i64 (ckCode f x y)]) 5 #[.agg (fcells f), .int .i64 x, .int .i64 y, .agg (acells .u64 2 t), .slice (some ⟨b2, 0, none⟩) zh zh] rfl rfl rfl rfl (enters_of Tryd.func5 (by kernel_rfl) rfl) rfl rfl rfl rfl (fun w' hw' hx => by
    obtain ⟨b', e, I⟩ := hx.1
    cases e
    exact specCheckPlaces f hff x y t zh qh h b2 zh w' I) (fun _ => ?_)
  simp only [Act.put, List.setIfInBounds_toArray, List.set_cons_zero, List.set_cons_succ]
  refine rel_val _ rfl rfl (fun _ _ => rfl) (fun _ => ?_)
  simp only [Act.put, List.setIfInBounds_toArray, List.set_cons_zero, List.set_cons_succ]
  refine rel_val _ rfl rfl (fun _ _ => rfl) (fun _ => ?_)
  simp only [Act.put, List.setIfInBounds_toArray, List.set_cons_zero, List.set_cons_succ]
  refine rel_val _ rfl rfl (fun _ _ => rfl) (fun _ => ?_)
  simp only [Act.put, List.setIfInBounds_toArray, List.set_cons_zero, List.set_cons_succ]
  refine rel_val _ rfl rfl (fun _ _ => rfl) (fun _ => ?_)
  simp only [Act.put, List.setIfInBounds_toArray, List.set_cons_zero, List.set_cons_succ]
  refine rel_val _ rfl rfl (fun _ _ => rfl) (fun _ => ?_)
  simp only [Act.put, List.setIfInBounds_toArray, List.set_cons_zero, List.set_cons_succ]
  refine rel_nil (fun W1 inv => ?_)
  have Nspec := inv.cls
  clear inv M0
  go_upto_region 5 with (go_at_call 8; refine (Nto_any zh qh h sh ch _ (Hhih.out.later Nspec.below)).mono ?_; rintro e W5 ⟨b5, rfl, I5, _, _, hb⟩; have M5 := Nspec.call hb; clear Nspec hb; have J5 := Lib.hid I5; clear I5)
  refine wp_region_rel (DL [dV (.agg (fcells f)), dV (.agg (fcells f)), dV (.int .i64 x), dV (.int .i64 y), dV (.agg (acells .u64 2 (t))), dV (.agg (acells .u64 2 t)), dV (.slice (some ⟨b5, 0, none⟩) zh zh), dV (.tuple #[.bool (ckVal f x y t zh h), .int .i64 (ckCode f x y)]), dV (.tuple #[.bool (ckVal f x y t zh h), .int .i64 (ckCode f x y)]), dV (.bool (ckVal f x y t zh h)), dV (.int .i64 (ckCode f x y)), dV (.bool (ckVal f x y t zh h)), dV (.int .i64 (ckCode f x y))]) (fun w' => Mem w w' [⟨w.heap.size, fcells f, 27⟩, ⟨w.heap.size + 1, acells .u64 2 (t), 29⟩] ∧ InI w' b5 0 zh h) (by kernel_rfl) (by kernel_rfl) (fun _ _ h hb => ⟨h.1.call hb, h.2.later hb⟩)
    (stays_DL (fun d hd => by
      simp only [List.mem_cons, List.mem_nil_iff, or_false] at hd
      rcases hd with rfl | rfl | rfl | rfl | rfl | rfl | rfl | rfl | rfl | rfl | rfl | rfl | rfl <;> exact stay_V)) ⟨M5.drew, J5.out⟩ ?_
  refine rel_load 27 _ rfl (w.heap.size) (0) rfl (fcells f) _ rfl rfl (fun w' hw' => (hw'.1.at 0 rfl).whole) Tryd.underlying27 rfl (by rw [fcells_size]; exact sizeFl) (fun _ => ?_)
  simp only [Act.put, List.setIfInBounds_toArray, List.set_cons_zero, List.set_cons_succ]
  refine rel_call (.agg (fcells f)) 6 #[.agg (fcells f)] rfl rfl rfl rfl (enters_of Tryd.func6 (by kernel_rfl) rfl) (fun w' _ => toField f w') (fun _ => ?_)
  simp only [Act.put, List.setIfInBounds_toArray, List.set_cons_zero, List.set_cons_succ]
  refine rel_val _ rfl rfl (fun _ _ => rfl) (fun _ => ?_)
  simp only [Act.put, List.setIfInBounds_toArray, List.set_cons_zero, List.set_cons_succ]
  refine rel_val _ rfl rfl (fun _ _ => rfl) (fun _ => ?_)
  simp only [Act.put, List.setIfInBounds_toArray, List.set_cons_zero, List.set_cons_succ]
  refine rel_load 29 _ rfl (w.heap.size + 1) (0) rfl (acells .u64 2 (t)) _ rfl rfl (fun w' hw' => (hw'.1.at 1 rfl).whole) Tryd.underlying29 rfl (by rw [acells_size]; exact sizeA) (fun _ => ?_)
  simp only [Act.put, List.setIfInBounds_toArray, List.set_cons_zero, List.set_cons_succ]
  refine rel_call (.agg (acells .u64 2 t)) 7 #[.agg (acells .u64 2 t)] rfl rfl rfl rfl (enters_of Tryd.func7 (by kernel_rfl) rfl) (fun w' _ => toCells t w') (fun _ => ?_)
  simp only [Act.put, List.setIfInBounds_toArray, List.set_cons_zero, List.set_cons_succ]
  refine rel_val _ rfl rfl (fun _ _ => rfl) (fun _ => ?_)
  simp only [Act.put, List.setIfInBounds_toArray, List.set_cons_zero, List.set_cons_succ]
  refine rel_call (.tuple #[.bool (ckVal f x y t zh h), .int .i64 (ckCode f x y)]) 9 #[.agg (fcells f), .int .i64 x, .int .i64 y, .agg (acells .u64 2 t), .slice (some ⟨b5, 0, none⟩) zh zh] rfl rfl rfl rfl (enters_of Tryd.func9 (by kernel_rfl) rfl) (fun w' hw' => implCheckPlaces f hff x y t zh qh h Hhgh.out b5 zh A w' hw'.2 (S.out.later hw'.1.below)) (fun _ => ?_)
  simp only [Act.put, List.setIfInBounds_toArray, List.set_cons_zero, List.set_cons_succ]
  refine rel_val _ rfl rfl (fun _ _ => rfl) (fun _ => ?_)
  simp only [Act.put, List.setIfInBounds_toArray, List.set_cons_zero, List.set_cons_succ]
  refine rel_val _ rfl rfl (fun _ _ => rfl) (fun _ => ?_)
  simp only [Act.put, List.setIfInBounds_toArray, List.set_cons_zero, List.set_cons_succ]
  refine rel_val _ rfl rfl (fun _ _ => rfl) (fun _ => ?_)
  simp only [Act.put, List.setIfInBounds_toArray, List.set_cons_zero, List.set_cons_succ]
  refine rel_val _ rfl rfl (fun _ _ => rfl) (fun _ => ?_)
  simp only [Act.put, List.setIfInBounds_toArray, List.set_cons_zero, List.set_cons_succ]
  refine rel_val _ rfl rfl (fun _ _ => rfl) (fun _ => ?_)
  simp only [Act.put, List.setIfInBounds_toArray, List.set_cons_zero, List.set_cons_succ]
  refine rel_nil (fun W6 inv => ?_)
  have M9 := inv.cls.1
  have J9 := Lib.hid inv.cls.2
  clear inv M5 J5
  obtain ⟨rv0, hrv0⟩ : ∃ res, ckVal f x y t zh h = res := ⟨_, rfl⟩
  rw [hrv0]
  clear hrv0
  obtain ⟨rv1, hrv1⟩ : ∃ res, ckCode f x y = res := ⟨_, rfl⟩
  rw [hrv1]
  clear hrv1
  go_wp2_with (first
    | (go_at_call 8; refine (Nto_any zh qh h sh ch _ (Hhih.out.later M9.below)).mono ?_; rintro e W10 ⟨b10, rfl, I10, _, _, hb⟩; have M10 := M9.call hb; have J10 := Lib.hid (J9.out.later hb); clear M9 hb J9)
    | (go_at_call 10; refine (Neq_J zh qh h _ _ _ _ _ (.inr ⟨_, _, rfl, J10.out⟩) (.inr ⟨_, _, rfl, I10⟩)).mono ?_; rintro e W11 ⟨rfl, hb⟩; have M11 := M10.call hb))
  go_ret
  exact ⟨rfl, M11.below⟩
theorem trodVars_len {H : Type} {enc : TypeId × Value → H} {P : Program} {w : World} {sp : Nat → Bool} : ∀ {ns : List String} {gs : List (DataW H)} {ps : List MemPlace}, DataW.TrodVars enc P w sp ns gs ps → gs.length = ns.length
  | [], [], _, _ => rfl
  | [], _ :: _, _, h => h.elim
  | _ :: _, [], _, h => h.elim
  | _ :: _, _ :: _, _, ⟨_, _, _, _, _, _, _, _, _, _, h, _⟩ => congrArg (· + 1) (trodVars_len h)
theorem door_met (os : Os) (args : Array Value) : laidMetH Tryd.prog Rows.fnExactCheckPlacesRow.laid ((World.doorLaid Tryd.prog 400 os).forCall (fun _ _ => 0) ⟨#[], args, []⟩).memory :=
  laidMetH_of_parts3 (fuel := 8) (laidMet_of_run' 8 (by kernel_rfl) (by kernel_rfl)) (by kernel_rfl) (by kernel_rfl)
set_option maxRecDepth 100000 in
theorem lifted (os : Os) (started : os.Started) (H : Type) (enc : TypeId × Value → H) :
    ReturnsInHanded {} Tryd.checked os 3 .any (fun w args => (Rows.fnExactCheckPlacesSpec.pre enc Tryd.prog Tryd.f3 Rows.fnExactCheckPlacesRow.domain false w args ∧ laidMetH Tryd.prog Rows.fnExactCheckPlacesRow.laid w) ∧ sizedMet enc Tryd.prog Tryd.f3 (OpenSpec.ofChange Rows.fnExactCheckPlacesSpec) false w args) (Rows.fnExactCheckPlacesSpec.post enc Tryd.prog Tryd.f3 false true false false) := by
  refine returnsInHanded_of_change_and (C := Tryd.checked) (X := fun w _ => laidMetH Tryd.prog Rows.fnExactCheckPlacesRow.laid w) (fun _ _ _ hh h => h.of_heap hh) own started (by kernel_rfl) Tryd.func3
    (ChangeSpec.witness_shaped (enc := enc) (C := Tryd.checked) (os := os) (X := fun w _ => laidMetH Tryd.prog Rows.fnExactCheckPlacesRow.laid w) false (World.doorLaid Tryd.prog 400 os) #[.agg (fcells Fd.zero), .int .i64 0, .int .i64 0, .agg (acells .u64 2 (fun _ => 0)), .slice none 0 0] 8 rfl (World.shaped_of_RefB (by kernel_rfl) (by kernel_rfl)) (by kernel_rfl) (by kernel_rfl) (by kernel_rfl) (door_met os _)) ?_
  intro W base args ds gs before hval0 hW _ _ hL _
  have hval : ∀ (j : Nat) t v, Tryd.f3.params[j]? = some t → args[j]? = some v → Value.okWide Tryd.prog W .any base t v := hval0
  have hW' := hW
  obtain ⟨p, q, hA0, hV0, rfl, hfz, hnd⟩ := hW
  have hA : DataW.TrodAll enc Tryd.prog W 0 (fun _ => true) true Tryd.f3.params.toList args.toList ds p := hA0
  have hV : DataW.TrodVars enc Tryd.prog W (fun _ => true) Rows.fnExactCheckPlacesSpec.vars gs q := hV0
  rw [Tryd.params3] at hA hval
  obtain ⟨v0, vs0, d0, ds0, p0, q0, hargs, rfl, rfl, h0, r0⟩ := trodAll_cons hA
  obtain ⟨v1, vs1, d1, ds1, p1, q1, rfl, rfl, rfl, h1, r1⟩ := trodAll_cons r0
  obtain ⟨v2, vs2, d2, ds2, p2, q2, rfl, rfl, rfl, h2, r2⟩ := trodAll_cons r1
  obtain ⟨v3, vs3, d3, ds3, p3, q3, rfl, rfl, rfl, h3, r3⟩ := trodAll_cons r2
  obtain ⟨v4, vs4, d4, ds4, p4, q4, rfl, rfl, rfl, h4, r4⟩ := trodAll_cons r3
  obtain ⟨rfl, rfl, rfl⟩ := trodAll_nil r4
  obtain rfl : args = #[v0, v1, v2, v3, v4] := by cases args; simp_all
  rw [MakeChecks.laidMetH_plain _ _ _ (by kernel_rfl)] at hL
  obtain ⟨A, SV⟩ := sentVars (rest := []) hL
  have hlen := trodVars_len hV
  obtain ⟨gv1, gv2, gv3, gv4, gv5, gv6, gv7, gv8, rfl⟩ : ∃ gv1 gv2 gv3 gv4 gv5 gv6 gv7 gv8, gs = [gv1, gv2, gv3, gv4, gv5, gv6, gv7, gv8] := by
    match gs, hlen with
    | [gv1, gv2, gv3, gv4, gv5, gv6, gv7, gv8], _ => exact ⟨gv1, gv2, gv3, gv4, gv5, gv6, gv7, gv8, rfl⟩
  have k0 := h0
  have lt0 : ∀ x ∈ p0, x.block < W.heap.size := by obtain ⟨m, hm⟩ := k0; exact DataW.trod_lt m _ _ _ hm
  have k1 := h1
  have lt1 : ∀ x ∈ p1, x.block < W.heap.size := by obtain ⟨m, hm⟩ := k1; exact DataW.trod_lt m _ _ _ hm
  have k2 := h2
  have lt2 : ∀ x ∈ p2, x.block < W.heap.size := by obtain ⟨m, hm⟩ := k2; exact DataW.trod_lt m _ _ _ hm
  have k3 := h3
  have lt3 : ∀ x ∈ p3, x.block < W.heap.size := by obtain ⟨m, hm⟩ := k3; exact DataW.trod_lt m _ _ _ hm
  have k4 := h4
  have lt4 : ∀ x ∈ p4, x.block < W.heap.size := by obtain ⟨m, hm⟩ := k4; exact DataW.trod_lt m _ _ _ hm
  obtain ⟨f0, rfl, hf0⟩ := open_field (fs := Tryd.prog.fieldsOf 27) (by kernel_rfl) (by kernel_rfl) Tryd.underlying22 Tryd.underlying23 Tryd.underlying5 Tryd.underlying25 Tryd.underlying24 (by kernel_rfl) (by kernel_rfl) (by kernel_rfl) (by kernel_rfl) (by kernel_rfl) (by kernel_rfl) (hval 0 27 v0 rfl rfl) h0
  obtain ⟨n1, rfl, rfl, rfl, wn1⟩ := open_int Tryd.underlying2 (hval 1 2 v1 rfl rfl) h1
  obtain ⟨n2, rfl, rfl, rfl, wn2⟩ := open_int Tryd.underlying2 (hval 2 2 v2 rfl rfl) h2
  obtain ⟨f3, rfl, hf3⟩ := open_row (q := .u64) Tryd.underlying29 Tryd.underlying28 (by kernel_rfl) (by kernel_rfl) (hval 3 29 v3 rfl rfl) h3
  obtain ⟨s4, z4, c4, g4, rfl, hz4, hi4, hg4⟩ := open_nums Tryd.underlying30 Tryd.underlying2 (by kernel_rfl) (hval 4 30 v4 rfl rfl) h4
  clear hA0 hval0 hV0
  refine (walk W f0 hf0 n1 wn1 n2 wn2 f3 hf3 s4 z4 c4 g4 (by simpa [maxLen] using hz4) hi4 hg4 A SV.sents).mono fun e W' ⟨he, bel⟩ => ?_
  subst he
  exact ⟨_, rfl, _, _, _, [], _, _, hW', trodAll_mk1 (shut_bool Tryd.underlying4 _), (trodAll_cons_mk (Below.trod laidOut (by kernel_rfl) (of_decide_eq_true (by kernel_rfl)) k0 bel lt0) (trodAll_cons_mk (Below.trod laidOut (by kernel_rfl) (of_decide_eq_true (by kernel_rfl)) k1 bel lt1) (trodAll_cons_mk (Below.trod laidOut (by kernel_rfl) (of_decide_eq_true (by kernel_rfl)) k2 bel lt2) (trodAll_cons_mk (Below.trod laidOut (by kernel_rfl) (of_decide_eq_true (by kernel_rfl)) k3 bel lt3) (trodAll_cons_mk (Below.trod laidOut (by kernel_rfl) (of_decide_eq_true (by kernel_rfl)) k4 bel lt4) trodAll_mk0))))), Below.trodVars laidOut bel (by kernel_rfl) hV, bel.frame _, fun h => by cases h⟩

theorem over : Rows.fnExactCheckPlacesRow.holds Tryd.pinned (OpenSpec.ofChange Rows.fnExactCheckPlacesSpec) :=
  OpenClaim.holds_of_wide 3 Tryd.f3 rfl rfl rfl rfl rfl rfl rfl ⟨rfl, rfl, rfl, rfl, rfl⟩ rfl rfl rfl rfl rfl (by kernel_rfl) Tryd.func3 (by kernel_rfl)
    (of_decide_eq_true (by kernel_rfl)) (by unfold Func.isWrapper; first | (rw [if_pos (by decide +kernel)]; kernel_rfl) | (rw [if_neg (by decide +kernel)]; exact ⟨rfl, rfl⟩))
    (fun os started H enc _ => lifted os started H enc)
theorem proved : Rows.FnExactCheckPlacesCardSaid :=
  Claim7.holds_tied_plain_at .later [] [.sentinel, .sentinel, .sentinel, .sentinel, .sentinel, .sentinel, .sentinel, .sentinel] true (true, "5682a408cfe4e58bf38032c52dfea99e8227cea9b7f123075e547cdaab3e2afe") true
    over (fun _ h => by cases h) (by kernel_rfl) (fun _ h => by cases h) fnExactCheckPlaces_row_tie rfl ⟨rfl, rfl⟩ (by kernel_rfl) rfl
    (fun f fn hf hfn => by
      obtain rfl : f = 3 := Option.some.inj ((show Tryd.prog.funcNamed "loop.example/g01338/laws.FnExactCheckPlaces" = some 3 by kernel_rfl).symm.trans hf) |>.symm
      obtain rfl : fn = Tryd.f3 := (Option.some.inj (Tryd.func3.symm.trans hfn)).symm
      exact ⟨by kernel_rfl, fun j t ht => by
        rw [Tryd.params3] at ht
        have hm : t ∈ [27, 2, 2, 29, 30] := by simpa using Array.mem_of_getElem? ht
        have hall : ([27, 2, 2, 29, 30].all fun u => !Tryd.prog.wantsStandIn u) = true := by kernel_rfl
        exact (show Tryd.prog.wantsStandIn t = false by simpa using List.all_eq_true.1 hall t hm)⟩)
    (by kernel_rfl)
#print axioms proved
end Go.Proofs.YteclngooblafoaaDoor.lawCheckPlaces
