/-
  ChoiceOf: for every field (valid or not) and all further arguments the program answers as the model does: no condition beyond the listed sentinels, which the card ties to the program's text.
-/
import Derived.Test.YtaccpnpoeikaaaaDoorChi
import Derived.Test.YtaccpnpoeikaaaaDoorFears2
import Derived.Test.YtaccpnpoeikaaaaDoorRow1
import Derived.Test.YtaccpnpoeikaaaaDoorTab
import Derived.Test.YtaccpnpoeikaaaaDoorCoreB
import Derived.Test.YtaccpnpoeikaaaaDoorLawh
import Derived.Test.YtaccpnpoeikaaaaDoorCard
import Derived.Test.YtaccpnpoeikaaaaDoorTie
import Derived.Test.YtaccpnpoeikaaaaDoorCards
import Derived.SevenTiedAt
import Derived.OpenVars
namespace Go.Proofs.YtaccpnpoeikaaaaDoor.lawChoiceOf
open Go Go.ChangeShapes Go.WideShapes Go.ChangeAt Go.RowKit

theorem sizeL16 : (Tryd.prog.info? 25).map (·.size) = some 100 := by kernel_rfl
set_option maxRecDepth 100000 in
set_option maxHeartbeats 8000000 in
theorem walk (w : World) (f : Fd) (hff : f.Wf) (g : Nat → Int) (hvg : ∀ i, i < 100 → (Lit.int .i16 (g i)).wf = true) (a : Nat → Int) (hsa : WfS ksFlock 1 (fun _ => a)) (A : Nat → Addr) (T0 : TabAt w) (S0 : Sents w A) : Calls Tryd.prog 5 #[.agg (fcells f), .agg (acells .i16 100 g), vFlock a] w fun e w' => e = .returned (.bool true) ∧ Below w.heap.size w w' := by
  have S : Hid (Sents w A) := Lib.hid S0
  have T : Hid (TabAt w) := Lib.hid T0
  clear S0 T0
  have hwg : Wf16 g := fun i hi => bounds_i16 (hvg i hi)
  clear hvg
  have hra : WfR a := WfS.row hsa (i := 0) (by omega)
  clear hsa
  go_enter Tryd.func5, Tryd.ntmps5
  go_upto_region 1 with (fail)
  obtain ⟨W, hW, M⟩ := open3 w (fcells f) 27 (acells .i16 100 g) 25 (flc a) 29
  unfold flc at hW
  rw [hW]; clear hW
  refine wp_region_rel (DL [dV (.agg (fcells f)), dV (.agg (fcells f)), dV (.agg (acells .i16 100 g)), dV (.agg (acells .i16 100 g)), dV (.agg (flc a)), dV (vFlock a), dV (.tuple #[.int .i64 (chVal f g a), .int .i64 (chCode f g a)]), dV (.tuple #[.int .i64 (chVal f g a), .int .i64 (chCode f g a)]), dV (.int .i64 (chVal f g a)), dV (.int .i64 (chCode f g a)), dV (.int .i64 (chVal f g a)), dV (.int .i64 (chCode f g a))]) (fun w' => Mem w w' [⟨w.heap.size, fcells f, 27⟩, ⟨w.heap.size + 1, acells .i16 100 g, 25⟩, ⟨w.heap.size + 1 + 1, flc a, 29⟩]) (by kernel_rfl) (by kernel_rfl) grows_mem
    (stays_DL (fun d hd => by
      simp only [List.mem_cons, List.mem_nil_iff, or_false] at hd
      rcases hd with rfl | rfl | rfl | rfl | rfl | rfl | rfl | rfl | rfl | rfl | rfl | rfl <;> exact stay_V)) M.drew ?_
  refine rel_load 27 _ rfl (w.heap.size) (0) rfl (fcells f) _ rfl rfl (fun w' hw' => (hw'.at 0 rfl).whole) Tryd.underlying27 rfl (by rw [fcells_size]; exact sizeFl) (fun _ => ?_)
  simp only [Act.put, List.setIfInBounds_toArray, List.set_cons_zero, List.set_cons_succ]
  refine rel_call (.agg (fcells f)) 8 #[.agg (fcells f)] rfl rfl rfl rfl (enters_of Tryd.func8 (by kernel_rfl) rfl) (fun w' _ => toField f w') (fun _ => ?_)
  simp only [Act.put, List.setIfInBounds_toArray, List.set_cons_zero, List.set_cons_succ]
  refine rel_load 25 _ rfl (w.heap.size + 1) (0) rfl (acells .i16 100 g) _ rfl rfl (fun w' hw' => (hw'.at 1 rfl).whole) Tryd.underlying25 rfl (by rw [acells_size]; exact sizeL16) (fun _ => ?_)
  simp only [Act.put, List.setIfInBounds_toArray, List.set_cons_zero, List.set_cons_succ]
  refine rel_call (.agg (acells .i16 100 g)) 9 #[.agg (acells .i16 100 g)] rfl rfl rfl rfl (enters_of Tryd.func9 (by kernel_rfl) rfl) (fun w' _ => toFears g w') (fun _ => ?_)
  simp only [Act.put, List.setIfInBounds_toArray, List.set_cons_zero, List.set_cons_succ]
  refine rel_load 29 _ rfl (w.heap.size + 1 + 1) (0) rfl (flc a) _ rfl rfl (fun w' hw' => (hw'.at 2 rfl).whole) Tryd.underlying29 rfl (by kernel_rfl) (fun _ => ?_)
  simp only [Act.put, List.setIfInBounds_toArray, List.set_cons_zero, List.set_cons_succ]
  refine rel_call (vFlock a) 10 #[vFlock a] rfl rfl rfl rfl (enters_of Tryd.func10 (by kernel_rfl) rfl) (fun w' _ => toFlock_any a w') (fun _ => ?_)
  simp only [Act.put, List.setIfInBounds_toArray, List.set_cons_zero, List.set_cons_succ]
  refine rel_call (.tuple #[.int .i64 (chVal f g a), .int .i64 (chCode f g a)]) 18 #[.agg (fcells f), .agg (acells .i16 100 g), vFlock a] rfl rfl rfl rfl (enters_of Tryd.func18 (by kernel_rfl) rfl) (fun w' hw' => specChoiceOf f hff g hwg a hra w') (fun _ => ?_)
  simp only [Act.put, List.setIfInBounds_toArray, List.set_cons_zero, List.set_cons_succ]
  refine rel_val _ rfl rfl (fun _ _ => rfl) (fun _ => ?_)
  simp only [Act.put, List.setIfInBounds_toArray, List.set_cons_zero, List.set_cons_succ]
  refine rel_val _ rfl rfl (fun _ _ => rfl) (fun _ => ?_)
  simp only [Act.put, List.setIfInBounds_toArray, List.set_cons_zero, List.set_cons_succ]
  refine rel_val _ rfl rfl (fun _ _ => rfl) (fun _ => ?_)
  simp only [Act.put, List.setIfInBounds_toArray, List.set_cons_zero, List.set_cons_succ]
  refine rel_val _ rfl rfl (fun _ _ => rfl) (fun _ => ?_)
  simp only [Act.put, List.setIfInBounds_toArray, List.set_cons_zero, List.set_cons_succ]
  refine rel_val _ rfl rfl (fun _ _ => rfl) (fun _ => ?_)
  simp only [Act.put, List.setIfInBounds_toArray, List.set_cons_zero, List.set_cons_succ]
  refine rel_nil (fun W1 inv => ?_)
  have Nspec := inv.cls
  clear inv M
  go_upto_region 2 with (fail)
  refine wp_region_rel (DL [dV (.agg (fcells f)), dV (.agg (fcells f)), dV (.agg (acells .i16 100 g)), dV (.agg (acells .i16 100 g)), dV (.agg (flc a)), dV (vFlock a), dV (.tuple #[.int .i64 (chVal f g a), .int .i64 (chCode f g a)]), dV (.tuple #[.int .i64 (chVal f g a), .int .i64 (chCode f g a)]), dV (.int .i64 (chVal f g a)), dV (.int .i64 (chCode f g a)), dV (.int .i64 (chVal f g a)), dV (.int .i64 (chCode f g a))]) (fun w' => Mem w w' [⟨w.heap.size, fcells f, 27⟩, ⟨w.heap.size + 1, acells .i16 100 g, 25⟩, ⟨w.heap.size + 1 + 1, flc a, 29⟩]) (by kernel_rfl) (by kernel_rfl) grows_mem
    (stays_DL (fun d hd => by
      simp only [List.mem_cons, List.mem_nil_iff, or_false] at hd
      rcases hd with rfl | rfl | rfl | rfl | rfl | rfl | rfl | rfl | rfl | rfl | rfl | rfl <;> exact stay_V)) Nspec.drew ?_
  refine rel_load 27 _ rfl (w.heap.size) (0) rfl (fcells f) _ rfl rfl (fun w' hw' => (hw'.at 0 rfl).whole) Tryd.underlying27 rfl (by rw [fcells_size]; exact sizeFl) (fun _ => ?_)
  simp only [Act.put, List.setIfInBounds_toArray, List.set_cons_zero, List.set_cons_succ]
  refine rel_call (.agg (fcells f)) 8 #[.agg (fcells f)] rfl rfl rfl rfl (enters_of Tryd.func8 (by kernel_rfl) rfl) (fun w' _ => toField f w') (fun _ => ?_)
  simp only [Act.put, List.setIfInBounds_toArray, List.set_cons_zero, List.set_cons_succ]
  refine rel_load 25 _ rfl (w.heap.size + 1) (0) rfl (acells .i16 100 g) _ rfl rfl (fun w' hw' => (hw'.at 1 rfl).whole) Tryd.underlying25 rfl (by rw [acells_size]; exact sizeL16) (fun _ => ?_)
  simp only [Act.put, List.setIfInBounds_toArray, List.set_cons_zero, List.set_cons_succ]
  refine rel_call (.agg (acells .i16 100 g)) 9 #[.agg (acells .i16 100 g)] rfl rfl rfl rfl (enters_of Tryd.func9 (by kernel_rfl) rfl) (fun w' _ => toFears g w') (fun _ => ?_)
  simp only [Act.put, List.setIfInBounds_toArray, List.set_cons_zero, List.set_cons_succ]
  refine rel_load 29 _ rfl (w.heap.size + 1 + 1) (0) rfl (flc a) _ rfl rfl (fun w' hw' => (hw'.at 2 rfl).whole) Tryd.underlying29 rfl (by kernel_rfl) (fun _ => ?_)
  simp only [Act.put, List.setIfInBounds_toArray, List.set_cons_zero, List.set_cons_succ]
  refine rel_call (vFlock a) 10 #[vFlock a] rfl rfl rfl rfl (enters_of Tryd.func10 (by kernel_rfl) rfl) (fun w' _ => toFlock_any a w') (fun _ => ?_)
  simp only [Act.put, List.setIfInBounds_toArray, List.set_cons_zero, List.set_cons_succ]
  refine rel_call (.tuple #[.int .i64 (chVal f g a), .int .i64 (chCode f g a)]) 19 #[.agg (fcells f), .agg (acells .i16 100 g), vFlock a] rfl rfl rfl rfl (enters_of Tryd.func19 (by kernel_rfl) rfl) (fun w' hw' => implChoiceOf f hff g hwg a hra A w' (T.out.later hw'.below) (S.out.later hw'.below)) (fun _ => ?_)
  simp only [Act.put, List.setIfInBounds_toArray, List.set_cons_zero, List.set_cons_succ]
  refine rel_val _ rfl rfl (fun _ _ => rfl) (fun _ => ?_)
  simp only [Act.put, List.setIfInBounds_toArray, List.set_cons_zero, List.set_cons_succ]
  refine rel_val _ rfl rfl (fun _ _ => rfl) (fun _ => ?_)
  simp only [Act.put, List.setIfInBounds_toArray, List.set_cons_zero, List.set_cons_succ]
  refine rel_val _ rfl rfl (fun _ _ => rfl) (fun _ => ?_)
  simp only [Act.put, List.setIfInBounds_toArray, List.set_cons_zero, List.set_cons_succ]
  refine rel_val _ rfl rfl (fun _ _ => rfl) (fun _ => ?_)
  simp only [Act.put, List.setIfInBounds_toArray, List.set_cons_zero, List.set_cons_succ]
  refine rel_val _ rfl rfl (fun _ _ => rfl) (fun _ => ?_)
  simp only [Act.put, List.setIfInBounds_toArray, List.set_cons_zero, List.set_cons_succ]
  refine rel_nil (fun W6 inv => ?_)
  have Nimpl := inv.cls
  clear inv Nspec
  obtain ⟨rv0, hrv0⟩ : ∃ x, chVal f g a = x := ⟨_, rfl⟩
  rw [hrv0]
  clear hrv0
  obtain ⟨rv1, hrv1⟩ : ∃ x, chCode f g a = x := ⟨_, rfl⟩
  rw [hrv1]
  clear hrv1
  go_wp2_with fail
  go_ret
  exact ⟨rfl, Nimpl.below⟩
theorem trodVars_len {H : Type} {enc : TypeId × Value → H} {P : Program} {w : World} {sp : Nat → Bool} : ∀ {ns : List String} {gs : List (DataW H)} {ps : List MemPlace}, DataW.TrodVars enc P w sp ns gs ps → gs.length = ns.length
  | [], [], _, _ => rfl
  | [], _ :: _, _, h => h.elim
  | _ :: _, [], _, h => h.elim
  | _ :: _, _ :: _, _, ⟨_, _, _, _, _, _, _, _, _, _, h, _⟩ => congrArg (· + 1) (trodVars_len h)
theorem door_met (os : Os) (args : Array Value) : laidMetH Tryd.prog Rows.fnExactChoiceOfRow.laid ((World.doorLaid Tryd.prog 400 os).forCall (fun _ _ => 0) ⟨#[], args, []⟩).memory :=
  laidMetH_of_parts3 (fuel := 8) (laidMet_of_run' 8 (by kernel_rfl) (by kernel_rfl)) (by kernel_rfl) (by kernel_rfl)
set_option maxRecDepth 100000 in
theorem lifted (os : Os) (started : os.Started) (H : Type) (enc : TypeId × Value → H) :
    ReturnsInHanded {} Tryd.checked os 5 .any (fun w args => (Rows.fnExactChoiceOfSpec.pre enc Tryd.prog Tryd.f5 Rows.fnExactChoiceOfRow.domain false w args ∧ laidMetH Tryd.prog Rows.fnExactChoiceOfRow.laid w) ∧ sizedMet enc Tryd.prog Tryd.f5 (OpenSpec.ofChange Rows.fnExactChoiceOfSpec) false w args) (Rows.fnExactChoiceOfSpec.post enc Tryd.prog Tryd.f5 false true false false) := by
  refine returnsInHanded_of_change_and (C := Tryd.checked) (X := fun w _ => laidMetH Tryd.prog Rows.fnExactChoiceOfRow.laid w) (fun _ _ _ hh h => h.of_heap hh) own started (by kernel_rfl) Tryd.func5
    (ChangeSpec.witness_shaped (enc := enc) (C := Tryd.checked) (os := os) (X := fun w _ => laidMetH Tryd.prog Rows.fnExactChoiceOfRow.laid w) false (World.doorLaid Tryd.prog 400 os) #[.agg (fcells Fd.zero), .agg (acells .i16 100 (fun _ => 0)), vFlock (fun _ => 0)] 8 rfl (World.shaped_of_RefB (by kernel_rfl) (by kernel_rfl)) (by kernel_rfl) (by kernel_rfl) (by kernel_rfl) (door_met os _)) ?_
  intro W base args ds gs before hval0 hW _ _ hL _
  have hval : ∀ (j : Nat) t v, Tryd.f5.params[j]? = some t → args[j]? = some v → Value.okWide Tryd.prog W .any base t v := hval0
  have hW' := hW
  obtain ⟨p, q, hA0, hV0, rfl, hfz, hnd⟩ := hW
  have hA : DataW.TrodAll enc Tryd.prog W 0 (fun _ => true) true Tryd.f5.params.toList args.toList ds p := hA0
  have hV : DataW.TrodVars enc Tryd.prog W (fun _ => true) Rows.fnExactChoiceOfSpec.vars gs q := hV0
  rw [Tryd.params5] at hA hval
  obtain ⟨v0, vs0, d0, ds0, p0, q0, hargs, rfl, rfl, h0, r0⟩ := trodAll_cons hA
  obtain ⟨v1, vs1, d1, ds1, p1, q1, rfl, rfl, rfl, h1, r1⟩ := trodAll_cons r0
  obtain ⟨v2, vs2, d2, ds2, p2, q2, rfl, rfl, rfl, h2, r2⟩ := trodAll_cons r1
  obtain ⟨rfl, rfl, rfl⟩ := trodAll_nil r2
  obtain rfl : args = #[v0, v1, v2] := by cases args; simp_all
  rw [MakeChecks.laidMetH_plain _ _ _ (by kernel_rfl)] at hL
  obtain ⟨A, SV⟩ := sentVars (rest := [(tabName, Rows.laid_loop_example_g01338_impl_mostOfFlock)]) hL
  have T : TabAt W := by
    obtain ⟨ps, hv, _, _⟩ := hL
    obtain ⟨_, _, _, _, _, _, _, _, _, _, hv, _⟩ := hv
    obtain ⟨_, _, _, _, _, _, _, _, _, _, hv, _⟩ := hv
    obtain ⟨_, _, _, _, _, _, _, _, _, _, hv, _⟩ := hv
    obtain ⟨_, _, _, _, _, _, _, _, _, _, hv, _⟩ := hv
    obtain ⟨_, _, _, _, _, _, _, _, _, _, hv, _⟩ := hv
    obtain ⟨_, _, _, _, _, _, _, _, _, _, hv, _⟩ := hv
    obtain ⟨_, _, _, _, _, _, _, _, _, _, hv, _⟩ := hv
    obtain ⟨_, _, _, _, _, _, _, _, _, _, hv, _⟩ := hv
    exact tab_of hv
  have hlen := trodVars_len hV
  obtain ⟨gv1, gv2, gv3, gv4, gv5, gv6, gv7, gv8, gv9, rfl⟩ : ∃ gv1 gv2 gv3 gv4 gv5 gv6 gv7 gv8 gv9, gs = [gv1, gv2, gv3, gv4, gv5, gv6, gv7, gv8, gv9] := by
    match gs, hlen with
    | [gv1, gv2, gv3, gv4, gv5, gv6, gv7, gv8, gv9], _ => exact ⟨gv1, gv2, gv3, gv4, gv5, gv6, gv7, gv8, gv9, rfl⟩
  have k0 := h0
  have lt0 : ∀ x ∈ p0, x.block < W.heap.size := by obtain ⟨m, hm⟩ := k0; exact DataW.trod_lt m _ _ _ hm
  have k1 := h1
  have lt1 : ∀ x ∈ p1, x.block < W.heap.size := by obtain ⟨m, hm⟩ := k1; exact DataW.trod_lt m _ _ _ hm
  have k2 := h2
  have lt2 : ∀ x ∈ p2, x.block < W.heap.size := by obtain ⟨m, hm⟩ := k2; exact DataW.trod_lt m _ _ _ hm
  obtain ⟨f0, rfl, hf0⟩ := open_field (fs := Tryd.prog.fieldsOf 27) (by kernel_rfl) (by kernel_rfl) Tryd.underlying22 Tryd.underlying23 Tryd.underlying5 Tryd.underlying25 Tryd.underlying24 (by kernel_rfl) (by kernel_rfl) (by kernel_rfl) (by kernel_rfl) (by kernel_rfl) (by kernel_rfl) (hval 0 27 v0 rfl rfl) h0
  obtain ⟨f1, rfl, hf1⟩ := open_row (q := .i16) Tryd.underlying25 Tryd.underlying24 (by kernel_rfl) (by kernel_rfl) (hval 1 25 v1 rfl rfl) h1
  obtain ⟨a2, rfl, ha2⟩ := open_row1 (ks := ksFlock) (fs := Tryd.prog.fieldsOf 29) (by kernel_rfl) (by kernel_rfl) (by kernel_rfl) (hval 2 29 v2 rfl rfl) h2
  clear hA0 hval0 hV0
  refine (walk W f0 hf0 f1 hf1 a2 ha2 A T SV.sents).mono fun e W' ⟨he, bel⟩ => ?_
  subst he
  exact ⟨_, rfl, _, _, _, [], _, _, hW', trodAll_mk1 (shut_bool Tryd.underlying4 _), (trodAll_cons_mk (Below.trod laidOut (by kernel_rfl) (of_decide_eq_true (by kernel_rfl)) k0 bel lt0) (trodAll_cons_mk (Below.trod laidOut (by kernel_rfl) (of_decide_eq_true (by kernel_rfl)) k1 bel lt1) (trodAll_cons_mk (Below.trod laidOut (by kernel_rfl) (of_decide_eq_true (by kernel_rfl)) k2 bel lt2) trodAll_mk0))), Below.trodVars laidOut bel (by kernel_rfl) hV, bel.frame _, fun h => by cases h⟩

theorem over : Rows.fnExactChoiceOfRow.holds Tryd.pinned (OpenSpec.ofChange Rows.fnExactChoiceOfSpec) :=
  OpenClaim.holds_of_wide 5 Tryd.f5 rfl rfl rfl rfl rfl rfl rfl ⟨rfl, rfl, rfl, rfl, rfl⟩ rfl rfl rfl rfl rfl (by kernel_rfl) Tryd.func5 (by kernel_rfl)
    (of_decide_eq_true (by kernel_rfl)) (by unfold Func.isWrapper; first | (rw [if_pos (by decide +kernel)]; kernel_rfl) | (rw [if_neg (by decide +kernel)]; exact ⟨rfl, rfl⟩))
    (fun os started H enc _ => lifted os started H enc)
theorem proved : Rows.FnExactChoiceOfCardSaid :=
  Claim7.holds_tied_plain_at .later [] [.sentinel, .sentinel, .sentinel, .sentinel, .sentinel, .sentinel, .sentinel, .sentinel, .data] true (true, "6572270ab533f3f9971be6435e3a4039d8b0b913a532b9807f6a5c2a474f441e") true
    over (fun _ h => by cases h) (by kernel_rfl) (fun _ h => by cases h) fnExactChoiceOf_row_tie rfl ⟨rfl, rfl⟩ (by kernel_rfl) rfl
    (fun f fn hf hfn => by
      obtain rfl : f = 5 := Option.some.inj ((show Tryd.prog.funcNamed "loop.example/g01338/laws.FnExactChoiceOf" = some 5 by kernel_rfl).symm.trans hf) |>.symm
      obtain rfl : fn = Tryd.f5 := (Option.some.inj (Tryd.func5.symm.trans hfn)).symm
      exact ⟨by kernel_rfl, fun j t ht => by
        rw [Tryd.params5] at ht
        have hm : t ∈ [27, 25, 29] := by simpa using Array.mem_of_getElem? ht
        have hall : ([27, 25, 29].all fun u => !Tryd.prog.wantsStandIn u) = true := by kernel_rfl
        exact (show Tryd.prog.wantsStandIn t = false by simpa using List.all_eq_true.1 hall t hm)⟩)
    (by kernel_rfl)
#print axioms proved
end Go.Proofs.YtaccpnpoeikaaaaDoor.lawChoiceOf
