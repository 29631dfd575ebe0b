/-
  CostOfNet: for every field (valid or not) and all further arguments the program answers as the model does: no condition beyond the listed sentinels, which the card ties to the program's text.
-/
import Derived.Test.YtkhhkacmfkipgaaDoorCostM
import Derived.Test.YtkhhkacmfkipgaaDoorRegE
import Derived.Test.YtkhhkacmfkipgaaDoorNetA
import Derived.Test.YtkhhkacmfkipgaaDoorLawh
import Derived.Test.YtkhhkacmfkipgaaDoorOpen
import Derived.Test.YtkhhkacmfkipgaaDoorCard
import Derived.Test.YtkhhkacmfkipgaaDoorTie
import Derived.Test.YtkhhkacmfkipgaaDoorCards
import Derived.SevenTiedAt
import Derived.OpenVars
namespace Go.Proofs.YtkhhkacmfkipgaaDoor.lawCostOfNet
open Go Go.ChangeShapes Go.WideShapes Go.ChangeAt Go.RowKit

theorem wfn {n : Nat} {F : Nat → Nat → Int} (h : WfS ksNet n F) {i : Nat} (hi : i < n) : WfN (F i) :=
  ⟨bounds_i8 (h i hi 0 (by decide)), bounds_i8 (h i hi 1 (by decide)), bounds_i8 (h i hi 2 (by decide)), bounds_i8 (h i hi 3 (by decide))⟩
theorem open_row1 {H : Type} {enc : TypeId × Value → H} {P : Program} {w : World} {b0 base : Nat} {r : Reach} {spare : Nat → Bool} {held : Bool} {t : TypeId} {fs : Array Field} {ks : List IntKind} {v : Value} {d : DataW H} {pl : List MemPlace}
    (he : P.underlying t = some (.struct fs)) (hC : P.cellsOf t = ks.length) (hfi : intFields P ks fs = true) (hv : Value.okWide P w r b0 t v) (h : DataW.Trod enc P w base spare held t v d pl) :
    ∃ a : Nat → Int, v = .agg (srow ks (fun _ => a) 0) ∧ WfS ks 1 (fun _ => a) := by
  obtain ⟨hsz, hf⟩ := intFields_of hfi
  obtain ⟨cs, rfl, hs⟩ := okWide_struct he hv
  obtain ⟨fuel, hfu⟩ := h
  obtain ⟨ys, n2, _, _, _, hyl, hfl⟩ := DataW.trod_struct he hfu
  have key : ∀ j, ∃ k : Int, j < ks.length → cs[j]? = some (.int (ks.getD j .i64) k) ∧ (Lit.int (ks.getD j .i64) k).wf = true := fun j => by
    by_cases hj : j < ks.length
    · have hjf : j < fs.size := by omega
      have hfj : fs[j]? = some fs[j] := Array.getElem?_eq_getElem hjf
      obtain ⟨ho, hc1, hu⟩ := hf j _ hfj
      have h1 := hfl j _ hfj
      rw [ho, hc1, List.getElem?_eq_getElem (by omega)] at h1
      obtain ⟨k, e1, e2⟩ := part_int hu h1
      exact ⟨k, fun _ => ⟨by simpa [Value.cells] using e1, e2⟩⟩
    · exact ⟨0, fun h => absurd h hj⟩
  obtain ⟨a, ha⟩ : ∃ a : Nat → Int, ∀ j, j < ks.length → cs[j]? = some (.int (ks.getD j .i64) (a j)) ∧ (Lit.int (ks.getD j .i64) (a j)).wf = true := ⟨fun j => Classical.choose (key j), fun j => Classical.choose_spec (key j)⟩
  refine ⟨a, ?_, fun i _ j hj => (ha j hj).2⟩
  congr 1
  apply Array.ext_getElem?
  intro j
  by_cases hj : j < ks.length
  · rw [(ha j hj).1, srow_get _ _ _ _ hj]; rfl
  · rw [Array.getElem?_eq_none (by omega), Array.getElem?_eq_none (by rw [srow_size]; omega)]
theorem wfp {q : Nat → Int} (h : WfS ksPrices 1 (fun _ => q)) : WfP q :=
  ⟨bounds_i16 (h 0 (by omega) 0 (by decide)), bounds_i16 (h 0 (by omega) 1 (by decide)), bounds_i16 (h 0 (by omega) 2 (by decide))⟩
set_option maxRecDepth 100000 in
set_option maxHeartbeats 8000000 in
theorem walk (w : World) (f : Fd) (hf : f.Wf) (p : Nat → Int) (hp0 : WfS ksPrices 1 (fun _ => p)) (a : Nat → Int) (ha0 : WfS ksNet 1 (fun _ => a)) (A : Nat → Addr) (S0 : Sents w A) : Calls Tryd.prog 6 #[.agg (fcells f), vPrices p, vNet a] w fun e w' => e = .returned (.bool true) ∧ Below w.heap.size w w' := by
  have S : Hid (Sents w A) := Lib.hid S0
  clear S0
  have ha : WfN a := wfn (n := 1) (F := fun _ => a) ha0 (i := 0) (by omega)
  have hp : WfP p := wfp hp0
  go_enter Tryd.func6, Tryd.ntmps6
  go_upto_region 1 with (fail)
  obtain ⟨W, hW, M⟩ := open3 w (fcells f) 27 (#[.int .i16 (p 0), .int .i16 (p 1), .int .i16 (p 2)]) 51 (#[.int .i8 (a 0), .int .i8 (a 1), .int .i8 (a 2), .int .i8 (a 3)]) 29
  rw [hW]; clear hW
  refine wp_region_rel (DL [dV (.agg (fcells f)), dV (.agg (fcells f)), dV (.agg (#[.int .i16 (p 0), .int .i16 (p 1), .int .i16 (p 2)])), dV (vPrices p), dV (.agg (#[.int .i8 (a 0), .int .i8 (a 1), .int .i8 (a 2), .int .i8 (a 3)])), dV (vNet a), dV (.tuple #[.int .i64 (costNet f p a), .int .i64 (costOneCode f p a)]), dV (.tuple #[.int .i64 (costNet f p a), .int .i64 (costOneCode f p a)]), dV (.int .i64 (costNet f p a)), dV (.int .i64 (costOneCode f p a)), dV (.int .i64 (costNet f p a)), dV (.int .i64 (costOneCode f p a))]) (fun w' => Mem w w' [⟨w.heap.size, fcells f, 27⟩, ⟨w.heap.size + 1, #[.int .i16 (p 0), .int .i16 (p 1), .int .i16 (p 2)], 51⟩, ⟨w.heap.size + 1 + 1, #[.int .i8 (a 0), .int .i8 (a 1), .int .i8 (a 2), .int .i8 (a 3)], 29⟩]) (by kernel_rfl) (by kernel_rfl) grows_mem
    (stays_DL (fun d hd => by
      simp only [List.mem_cons, List.mem_nil_iff, or_false] at hd
      rcases hd with rfl | rfl | rfl | rfl | rfl | rfl | rfl | rfl | rfl | rfl | rfl | rfl <;> exact stay_V)) M.drew ?_
  refine rel_load 27 _ rfl (w.heap.size) (0) rfl (fcells f) _ rfl rfl (fun w' hw' => (hw'.at 0 rfl).whole) Tryd.underlying27 rfl (by rw [fcells_size]; exact sizeFl) (fun _ => ?_)
  simp only [Act.put, List.setIfInBounds_toArray, List.set_cons_zero, List.set_cons_succ]
  refine rel_call (.agg (fcells f)) 11 #[.agg (fcells f)] rfl rfl rfl rfl (enters_of Tryd.func11 (by kernel_rfl) rfl) (fun w' _ => toField f w') (fun _ => ?_)
  simp only [Act.put, List.setIfInBounds_toArray, List.set_cons_zero, List.set_cons_succ]
  refine rel_load 51 _ rfl (w.heap.size + 1) (0) rfl (#[.int .i16 (p 0), .int .i16 (p 1), .int .i16 (p 2)]) _ rfl rfl (fun w' hw' => (hw'.at 1 rfl).whole) Tryd.underlying51 rfl (by kernel_rfl) (fun _ => ?_)
  simp only [Act.put, List.setIfInBounds_toArray, List.set_cons_zero, List.set_cons_succ]
  refine rel_call (vPrices p) 23 #[vPrices p] rfl rfl rfl rfl (enters_of Tryd.func23 (by kernel_rfl) rfl) (fun w' _ => toPrices_any p w') (fun _ => ?_)
  simp only [Act.put, List.setIfInBounds_toArray, List.set_cons_zero, List.set_cons_succ]
  refine rel_load 29 _ rfl (w.heap.size + 1 + 1) (0) rfl (#[.int .i8 (a 0), .int .i8 (a 1), .int .i8 (a 2), .int .i8 (a 3)]) _ rfl rfl (fun w' hw' => (hw'.at 2 rfl).whole) Tryd.underlying29 rfl (by kernel_rfl) (fun _ => ?_)
  simp only [Act.put, List.setIfInBounds_toArray, List.set_cons_zero, List.set_cons_succ]
  refine rel_call (vNet a) 12 #[vNet a] rfl rfl rfl rfl (enters_of Tryd.func12 (by kernel_rfl) rfl) (fun w' _ => toNet_any a w') (fun _ => ?_)
  simp only [Act.put, List.setIfInBounds_toArray, List.set_cons_zero, List.set_cons_succ]
  refine rel_call (.tuple #[.int .i64 (costNet f p a), .int .i64 (costOneCode f p a)]) 22 #[.agg (fcells f), vPrices p, vNet a] rfl rfl rfl rfl (enters_of Tryd.func22 (by kernel_rfl) rfl) (fun w' hw' => specCostOfNet f hf p hp a ha w') (fun _ => ?_)
  simp only [Act.put, List.setIfInBounds_toArray, List.set_cons_zero, List.set_cons_succ]
  refine rel_val _ rfl rfl (fun _ _ => rfl) (fun _ => ?_)
  simp only [Act.put, List.setIfInBounds_toArray, List.set_cons_zero, List.set_cons_succ]
  refine rel_val _ rfl rfl (fun _ _ => rfl) (fun _ => ?_)
  simp only [Act.put, List.setIfInBounds_toArray, List.set_cons_zero, List.set_cons_succ]
  refine rel_val _ rfl rfl (fun _ _ => rfl) (fun _ => ?_)
  simp only [Act.put, List.setIfInBounds_toArray, List.set_cons_zero, List.set_cons_succ]
  refine rel_val _ rfl rfl (fun _ _ => rfl) (fun _ => ?_)
  simp only [Act.put, List.setIfInBounds_toArray, List.set_cons_zero, List.set_cons_succ]
  refine rel_val _ rfl rfl (fun _ _ => rfl) (fun _ => ?_)
  simp only [Act.put, List.setIfInBounds_toArray, List.set_cons_zero, List.set_cons_succ]
  refine rel_nil (fun W1 inv => ?_)
  have Nspec := inv.cls
  clear inv M
  go_upto_region 2 with (fail)
  refine wp_region_rel (DL [dV (.agg (fcells f)), dV (.agg (fcells f)), dV (.agg (#[.int .i16 (p 0), .int .i16 (p 1), .int .i16 (p 2)])), dV (vPrices p), dV (.agg (#[.int .i8 (a 0), .int .i8 (a 1), .int .i8 (a 2), .int .i8 (a 3)])), dV (vNet a), dV (.tuple #[.int .i64 (costNet f p a), .int .i64 (costOneCode f p a)]), dV (.tuple #[.int .i64 (costNet f p a), .int .i64 (costOneCode f p a)]), dV (.int .i64 (costNet f p a)), dV (.int .i64 (costOneCode f p a)), dV (.int .i64 (costNet f p a)), dV (.int .i64 (costOneCode f p a))]) (fun w' => Mem w w' [⟨w.heap.size, fcells f, 27⟩, ⟨w.heap.size + 1, #[.int .i16 (p 0), .int .i16 (p 1), .int .i16 (p 2)], 51⟩, ⟨w.heap.size + 1 + 1, #[.int .i8 (a 0), .int .i8 (a 1), .int .i8 (a 2), .int .i8 (a 3)], 29⟩]) (by kernel_rfl) (by kernel_rfl) grows_mem
    (stays_DL (fun d hd => by
      simp only [List.mem_cons, List.mem_nil_iff, or_false] at hd
      rcases hd with rfl | rfl | rfl | rfl | rfl | rfl | rfl | rfl | rfl | rfl | rfl | rfl <;> exact stay_V)) Nspec.drew ?_
  refine rel_load 27 _ rfl (w.heap.size) (0) rfl (fcells f) _ rfl rfl (fun w' hw' => (hw'.at 0 rfl).whole) Tryd.underlying27 rfl (by rw [fcells_size]; exact sizeFl) (fun _ => ?_)
  simp only [Act.put, List.setIfInBounds_toArray, List.set_cons_zero, List.set_cons_succ]
  refine rel_call (.agg (fcells f)) 11 #[.agg (fcells f)] rfl rfl rfl rfl (enters_of Tryd.func11 (by kernel_rfl) rfl) (fun w' _ => toField f w') (fun _ => ?_)
  simp only [Act.put, List.setIfInBounds_toArray, List.set_cons_zero, List.set_cons_succ]
  refine rel_load 51 _ rfl (w.heap.size + 1) (0) rfl (#[.int .i16 (p 0), .int .i16 (p 1), .int .i16 (p 2)]) _ rfl rfl (fun w' hw' => (hw'.at 1 rfl).whole) Tryd.underlying51 rfl (by kernel_rfl) (fun _ => ?_)
  simp only [Act.put, List.setIfInBounds_toArray, List.set_cons_zero, List.set_cons_succ]
  refine rel_call (vPrices p) 23 #[vPrices p] rfl rfl rfl rfl (enters_of Tryd.func23 (by kernel_rfl) rfl) (fun w' _ => toPrices_any p w') (fun _ => ?_)
  simp only [Act.put, List.setIfInBounds_toArray, List.set_cons_zero, List.set_cons_succ]
  refine rel_load 29 _ rfl (w.heap.size + 1 + 1) (0) rfl (#[.int .i8 (a 0), .int .i8 (a 1), .int .i8 (a 2), .int .i8 (a 3)]) _ rfl rfl (fun w' hw' => (hw'.at 2 rfl).whole) Tryd.underlying29 rfl (by kernel_rfl) (fun _ => ?_)
  simp only [Act.put, List.setIfInBounds_toArray, List.set_cons_zero, List.set_cons_succ]
  refine rel_call (vNet a) 12 #[vNet a] rfl rfl rfl rfl (enters_of Tryd.func12 (by kernel_rfl) rfl) (fun w' _ => toNet_any a w') (fun _ => ?_)
  simp only [Act.put, List.setIfInBounds_toArray, List.set_cons_zero, List.set_cons_succ]
  refine rel_call (.tuple #[.int .i64 (costNet f p a), .int .i64 (costOneCode f p a)]) 24 #[.agg (fcells f), vPrices p, vNet a] rfl rfl rfl rfl (enters_of Tryd.func24 (by kernel_rfl) rfl) (fun w' hw' => implCostOfNet f hf p hp a ha A w' (S.out.later hw'.below)) (fun _ => ?_)
  simp only [Act.put, List.setIfInBounds_toArray, List.set_cons_zero, List.set_cons_succ]
  refine rel_val _ rfl rfl (fun _ _ => rfl) (fun _ => ?_)
  simp only [Act.put, List.setIfInBounds_toArray, List.set_cons_zero, List.set_cons_succ]
  refine rel_val _ rfl rfl (fun _ _ => rfl) (fun _ => ?_)
  simp only [Act.put, List.setIfInBounds_toArray, List.set_cons_zero, List.set_cons_succ]
  refine rel_val _ rfl rfl (fun _ _ => rfl) (fun _ => ?_)
  simp only [Act.put, List.setIfInBounds_toArray, List.set_cons_zero, List.set_cons_succ]
  refine rel_val _ rfl rfl (fun _ _ => rfl) (fun _ => ?_)
  simp only [Act.put, List.setIfInBounds_toArray, List.set_cons_zero, List.set_cons_succ]
  refine rel_val _ rfl rfl (fun _ _ => rfl) (fun _ => ?_)
  simp only [Act.put, List.setIfInBounds_toArray, List.set_cons_zero, List.set_cons_succ]
  refine rel_nil (fun W6 inv => ?_)
  have Nimpl := inv.cls
  clear inv Nspec
  go_wp2_with fail
  go_ret
  exact ⟨rfl, Nimpl.below⟩
theorem trodVars_len {H : Type} {enc : TypeId × Value → H} {P : Program} {w : World} {sp : Nat → Bool} : ∀ {ns : List String} {gs : List (DataW H)} {ps : List MemPlace}, DataW.TrodVars enc P w sp ns gs ps → gs.length = ns.length
  | [], [], _, _ => rfl
  | [], _ :: _, _, h => h.elim
  | _ :: _, [], _, h => h.elim
  | _ :: _, _ :: _, _, ⟨_, _, _, _, _, _, _, _, _, _, h, _⟩ => congrArg (· + 1) (trodVars_len h)
theorem door_met (os : Os) (args : Array Value) : laidMetH Tryd.prog Rows.fnExactCostOfNetRow.laid ((World.doorLaid Tryd.prog 400 os).forCall (fun _ _ => 0) ⟨#[], args, []⟩).memory :=
  laidMetH_of_parts3 (fuel := 8) (laidMet_of_run' 8 (by kernel_rfl) (by kernel_rfl)) (by kernel_rfl) (by kernel_rfl)
set_option maxRecDepth 100000 in
theorem lifted (os : Os) (started : os.Started) (H : Type) (enc : TypeId × Value → H) :
    ReturnsInHanded {} Tryd.checked os 6 .any (fun w args => (Rows.fnExactCostOfNetSpec.pre enc Tryd.prog Tryd.f6 Rows.fnExactCostOfNetRow.domain false w args ∧ laidMetH Tryd.prog Rows.fnExactCostOfNetRow.laid w) ∧ sizedMet enc Tryd.prog Tryd.f6 (OpenSpec.ofChange Rows.fnExactCostOfNetSpec) false w args) (Rows.fnExactCostOfNetSpec.post enc Tryd.prog Tryd.f6 false true false false) := by
  refine returnsInHanded_of_change_and (C := Tryd.checked) (X := fun w _ => laidMetH Tryd.prog Rows.fnExactCostOfNetRow.laid w) (fun _ _ _ hh h => h.of_heap hh) own started (by kernel_rfl) Tryd.func6
    (ChangeSpec.witness_shaped (enc := enc) (C := Tryd.checked) (os := os) (X := fun w _ => laidMetH Tryd.prog Rows.fnExactCostOfNetRow.laid w) false (World.doorLaid Tryd.prog 400 os) #[.agg (fcells Fd.zero), vPrices (fun _ => 0), vNet (fun _ => 0)] 8 rfl (World.shaped_of_RefB (by kernel_rfl) (by kernel_rfl)) (by kernel_rfl) (by kernel_rfl) (by kernel_rfl) (door_met os _)) ?_
  intro W base args ds gs before hval0 hW _ _ hL _
  have hval : ∀ (j : Nat) t v, Tryd.f6.params[j]? = some t → args[j]? = some v → Value.okWide Tryd.prog W .any base t v := hval0
  have hW' := hW
  obtain ⟨p, q, hA0, hV0, rfl, hfz, hnd⟩ := hW
  have hA : DataW.TrodAll enc Tryd.prog W 0 (fun _ => true) true Tryd.f6.params.toList args.toList ds p := hA0
  have hV : DataW.TrodVars enc Tryd.prog W (fun _ => true) Rows.fnExactCostOfNetSpec.vars gs q := hV0
  rw [Tryd.params6] at hA hval
  obtain ⟨v0, vs0, d0, ds0, p0, q0, hargs, rfl, rfl, h0, r0⟩ := trodAll_cons hA
  obtain ⟨v1, vs1, d1, ds1, p1, q1, rfl, rfl, rfl, h1, r1⟩ := trodAll_cons r0
  obtain ⟨v2, vs2, d2, ds2, p2, q2, rfl, rfl, rfl, h2, r2⟩ := trodAll_cons r1
  obtain ⟨rfl, rfl, rfl⟩ := trodAll_nil r2
  obtain rfl : args = #[v0, v1, v2] := by cases args; simp_all
  rw [MakeChecks.laidMetH_plain _ _ _ (by kernel_rfl)] at hL
  obtain ⟨A, SV⟩ := sentVars (rest := []) hL
  have hlen := trodVars_len hV
  obtain ⟨gv1, gv2, gv3, gv4, gv5, gv6, gv7, gv8, rfl⟩ : ∃ gv1 gv2 gv3 gv4 gv5 gv6 gv7 gv8, gs = [gv1, gv2, gv3, gv4, gv5, gv6, gv7, gv8] := by
    match gs, hlen with
    | [gv1, gv2, gv3, gv4, gv5, gv6, gv7, gv8], _ => exact ⟨gv1, gv2, gv3, gv4, gv5, gv6, gv7, gv8, rfl⟩
  have k0 := h0
  have lt0 : ∀ x ∈ p0, x.block < W.heap.size := by obtain ⟨m, hm⟩ := k0; exact DataW.trod_lt m _ _ _ hm
  have k1 := h1
  have lt1 : ∀ x ∈ p1, x.block < W.heap.size := by obtain ⟨m, hm⟩ := k1; exact DataW.trod_lt m _ _ _ hm
  have k2 := h2
  have lt2 : ∀ x ∈ p2, x.block < W.heap.size := by obtain ⟨m, hm⟩ := k2; exact DataW.trod_lt m _ _ _ hm
  obtain ⟨f0, rfl, hf0⟩ := open_field (fs := Tryd.prog.fieldsOf 27) (by kernel_rfl) (by kernel_rfl) Tryd.underlying22 Tryd.underlying23 Tryd.underlying5 Tryd.underlying25 Tryd.underlying24 (by kernel_rfl) (by kernel_rfl) (by kernel_rfl) (by kernel_rfl) (by kernel_rfl) (by kernel_rfl) (hval 0 27 v0 rfl rfl) h0
  obtain ⟨a1, rfl, ha1⟩ := open_row1 (ks := ksPrices) (fs := Tryd.prog.fieldsOf 51) (by kernel_rfl) (by kernel_rfl) (by kernel_rfl) (hval 1 51 v1 rfl rfl) h1
  obtain ⟨a2, rfl, ha2⟩ := open_row1 (ks := ksNet) (fs := Tryd.prog.fieldsOf 29) (by kernel_rfl) (by kernel_rfl) (by kernel_rfl) (hval 2 29 v2 rfl rfl) h2
  clear hA0 hval0 hV0
  refine (walk W f0 hf0 a1 ha1 a2 ha2 A SV.sents).mono fun e W' ⟨he, bel⟩ => ?_
  subst he
  exact ⟨_, rfl, _, _, _, [], _, _, hW', trodAll_mk1 (shut_bool Tryd.underlying4 _), (trodAll_cons_mk (Below.trod laidOut (by kernel_rfl) (of_decide_eq_true (by kernel_rfl)) k0 bel lt0) (trodAll_cons_mk (Below.trod laidOut (by kernel_rfl) (of_decide_eq_true (by kernel_rfl)) k1 bel lt1) (trodAll_cons_mk (Below.trod laidOut (by kernel_rfl) (of_decide_eq_true (by kernel_rfl)) k2 bel lt2) trodAll_mk0))), Below.trodVars laidOut bel (by kernel_rfl) hV, bel.frame _, fun h => by cases h⟩

theorem over : Rows.fnExactCostOfNetRow.holds Tryd.pinned (OpenSpec.ofChange Rows.fnExactCostOfNetSpec) :=
  OpenClaim.holds_of_wide 6 Tryd.f6 rfl rfl rfl rfl rfl rfl rfl ⟨rfl, rfl, rfl, rfl, rfl⟩ rfl rfl rfl rfl rfl (by kernel_rfl) Tryd.func6 (by kernel_rfl)
    (of_decide_eq_true (by kernel_rfl)) (by unfold Func.isWrapper; first | (rw [if_pos (by decide +kernel)]; kernel_rfl) | (rw [if_neg (by decide +kernel)]; exact ⟨rfl, rfl⟩))
    (fun os started H enc _ => lifted os started H enc)
theorem proved : Rows.FnExactCostOfNetCardSaid :=
  Claim7.holds_tied_plain_at .later [] [.sentinel, .sentinel, .sentinel, .sentinel, .sentinel, .sentinel, .sentinel, .sentinel] true (true, "733e08a213e7d436d2b032eb8175836d78ec5cead2292de3cdd4b32e3f3f1c79") true
    over (fun _ h => by cases h) (by kernel_rfl) (fun _ h => by cases h) fnExactCostOfNet_row_tie rfl ⟨rfl, rfl⟩ (by kernel_rfl) rfl
    (fun f fn hf hfn => by
      obtain rfl : f = 6 := Option.some.inj ((show Tryd.prog.funcNamed "loop.example/g01338/laws.FnExactCostOfNet" = some 6 by kernel_rfl).symm.trans hf) |>.symm
      obtain rfl : fn = Tryd.f6 := (Option.some.inj (Tryd.func6.symm.trans hfn)).symm
      exact ⟨by kernel_rfl, fun j t ht => by
        rw [Tryd.params6] at ht
        have hm : t ∈ [27, 51, 29] := by simpa using Array.mem_of_getElem? ht
        have hall : ([27, 51, 29].all fun u => !Tryd.prog.wantsStandIn u) = true := by kernel_rfl
        exact (show Tryd.prog.wantsStandIn t = false by simpa using List.all_eq_true.1 hall t hm)⟩)
    (by kernel_rfl)
#print axioms proved
end Go.Proofs.YtkhhkacmfkipgaaDoor.lawCostOfNet
