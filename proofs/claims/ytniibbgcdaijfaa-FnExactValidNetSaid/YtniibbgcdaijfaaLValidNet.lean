/-
  ValidNet: for every field and every net the program answers as the model does: no condition.
-/
import Derived.Test.YtniibbgcdaijfaaVNetOf
import Derived.Test.YtniibbgcdaijfaaLawh
import Derived.Test.YtniibbgcdaijfaaNetA
import Derived.Test.YtniibbgcdaijfaaFlkIn
import Derived.Test.YtniibbgcdaijfaaOpen
import Derived.Test.YtniibbgcdaijfaaRows
import Derived.ChangeOld
import Derived.Below
namespace Go.Proofs.Ytniibbgcdaijfaa.lawValidNet
open Go Go.ChangeShapes Go.WideShapes Go.ChangeAt Go.RowKit Go.Deep

theorem own : ownKnob Try.prog.godebug = none := by kernel_rfl
theorem laidOut : laidOutB Try.prog = true := by kernel_rfl
theorem open_row1 {H : Type} {enc : TypeId × Value → H} {P : Program} {w : World} {b0 base : Nat} {r : Reach} {spare : Nat → Bool} {held : Bool} {t : TypeId} {fs : Array Field} {ks : List IntKind} {v : Value} {d : DataW H} {pl : List MemPlace}
    (he : P.underlying t = some (.struct fs)) (hC : P.cellsOf t = ks.length) (hfi : intFields P ks fs = true) (hv : Value.okWide P w r b0 t v) (h : DataW.Trod enc P w base spare held t v d pl) :
    ∃ a : Nat → Int, v = .agg (srow ks (fun _ => a) 0) ∧ WfS ks 1 (fun _ => a) := by
  obtain ⟨hsz, hf⟩ := intFields_of hfi
  obtain ⟨cs, rfl, hs⟩ := okWide_struct he hv
  obtain ⟨fuel, hfu⟩ := h
  obtain ⟨ys, n2, _, _, _, hyl, hfl⟩ := DataW.trod_struct he hfu
  have key : ∀ j, ∃ k : Int, j < ks.length → cs[j]? = some (.int (ks.getD j .i64) k) ∧ (Lit.int (ks.getD j .i64) k).wf = true := fun j => by
    by_cases hj : j < ks.length
    · have hjf : j < fs.size := by omega
      have hfj : fs[j]? = some fs[j] := Array.getElem?_eq_getElem hjf
      obtain ⟨ho, hc1, hu⟩ := hf j _ hfj
      have h1 := hfl j _ hfj
      rw [ho, hc1, List.getElem?_eq_getElem (by omega)] at h1
      obtain ⟨k, e1, e2⟩ := part_int hu h1
      exact ⟨k, fun _ => ⟨by simpa [Value.cells] using e1, e2⟩⟩
    · exact ⟨0, fun h => absurd h hj⟩
  obtain ⟨a, ha⟩ : ∃ a : Nat → Int, ∀ j, j < ks.length → cs[j]? = some (.int (ks.getD j .i64) (a j)) ∧ (Lit.int (ks.getD j .i64) (a j)).wf = true := ⟨fun j => Classical.choose (key j), fun j => Classical.choose_spec (key j)⟩
  refine ⟨a, ?_, fun i _ j hj => (ha j hj).2⟩
  congr 1
  apply Array.ext_getElem?
  intro j
  by_cases hj : j < ks.length
  · rw [(ha j hj).1, srow_get _ _ _ _ hj]; rfl
  · rw [Array.getElem?_eq_none (by omega), Array.getElem?_eq_none (by rw [srow_size]; omega)]
theorem wfn {a : Nat → Int} (h : WfS ksNet 1 (fun _ => a)) : WfN a :=
  ⟨bounds_i8 (h 0 (by omega) 0 (by decide)), bounds_i8 (h 0 (by omega) 1 (by decide)), bounds_i8 (h 0 (by omega) 2 (by decide)), bounds_i8 (h 0 (by omega) 3 (by decide))⟩
set_option maxRecDepth 100000 in
set_option maxHeartbeats 4000000 in
theorem walk (f : Fd) (hf : f.Wf) (a : Nat → Int) (ha0 : WfS ksNet 1 (fun _ => a)) (w : World) : Calls Try.prog 3 #[.agg (fcells f), vNet a] w fun e w' => e = .returned (.bool true) ∧ Below w.heap.size w w' := by
  have ha : WfN a := wfn ha0
  go_enter Try.func3, Try.ntmps3
  go_upto_region 1 with (fail)
  obtain ⟨W, hW, M⟩ := open2 w (fcells f) 27 #[.int .i8 (a 0), .int .i8 (a 1), .int .i8 (a 2), .int .i8 (a 3)] 29
  rw [hW]; clear hW
  refine wp_region_rel (DL [dV (.agg (fcells f)), dV (.agg (fcells f)), dV (.agg (#[.int .i8 (a 0), .int .i8 (a 1), .int .i8 (a 2), .int .i8 (a 3)])), dV (vNet a), dV (.bool (okF f && netOk f a)), dV (.bool (okF f && netOk f a))]) (fun w' => Mem w w' [⟨w.heap.size, fcells f, 27⟩, ⟨w.heap.size + 1, #[.int .i8 (a 0), .int .i8 (a 1), .int .i8 (a 2), .int .i8 (a 3)], 29⟩]) (by kernel_rfl) (by kernel_rfl) grows_mem
    (stays_DL (fun d hd => by
      simp only [List.mem_cons, List.mem_nil_iff, or_false] at hd
      rcases hd with rfl | rfl | rfl | rfl | rfl | rfl <;> exact stay_V)) M.drew ?_
  refine rel_load 27 _ rfl (w.heap.size) (0) rfl (fcells f) _ rfl rfl (fun w' hw' => (hw'.at 0 rfl).whole) Try.underlying27 rfl (by rw [fcells_size]; exact sizeFl) (fun _ => ?_)
  simp only [Act.put, List.setIfInBounds_toArray, List.set_cons_zero, List.set_cons_succ]
  refine rel_call (.agg (fcells f)) 6 #[.agg (fcells f)] rfl rfl rfl rfl (enters_of Try.func6 (by kernel_rfl) rfl) (fun w' _ => toField f w') (fun _ => ?_)
  simp only [Act.put, List.setIfInBounds_toArray, List.set_cons_zero, List.set_cons_succ]
  refine rel_load 29 _ rfl (w.heap.size + 1) (0) rfl (#[.int .i8 (a 0), .int .i8 (a 1), .int .i8 (a 2), .int .i8 (a 3)]) _ rfl rfl (fun w' hw' => (hw'.at 1 rfl).whole) Try.underlying29 rfl (by kernel_rfl) (fun _ => ?_)
  simp only [Act.put, List.setIfInBounds_toArray, List.set_cons_zero, List.set_cons_succ]
  refine rel_call (vNet a) 7 #[vNet a] rfl rfl rfl rfl (enters_of Try.func7 (by kernel_rfl) rfl) (fun w' _ => toNet_any a w') (fun _ => ?_)
  simp only [Act.put, List.setIfInBounds_toArray, List.set_cons_zero, List.set_cons_succ]
  refine rel_call (.bool (okF f && netOk f a)) 5 #[.agg (fcells f), vNet a] rfl rfl rfl rfl (enters_of Try.func5 (by kernel_rfl) rfl) (fun w' _ => specValidNet f hf a ha w') (fun _ => ?_)
  simp only [Act.put, List.setIfInBounds_toArray, List.set_cons_zero, List.set_cons_succ]
  refine rel_val _ rfl rfl (fun _ _ => rfl) (fun _ => ?_)
  simp only [Act.put, List.setIfInBounds_toArray, List.set_cons_zero, List.set_cons_succ]
  refine rel_nil (fun W1 inv => ?_)
  have M1 := inv.cls
  clear inv M
  go_upto_region 2 with (fail)
  refine wp_region_rel (DL [dV (.agg (fcells f)), dV (.agg (fcells f)), dV (.agg (#[.int .i8 (a 0), .int .i8 (a 1), .int .i8 (a 2), .int .i8 (a 3)])), dV (vNet a), dV (.bool (okF f && netOk f a)), dV (.bool (okF f && netOk f a))]) (fun w' => Mem w w' [⟨w.heap.size, fcells f, 27⟩, ⟨w.heap.size + 1, #[.int .i8 (a 0), .int .i8 (a 1), .int .i8 (a 2), .int .i8 (a 3)], 29⟩]) (by kernel_rfl) (by kernel_rfl) grows_mem
    (stays_DL (fun d hd => by
      simp only [List.mem_cons, List.mem_nil_iff, or_false] at hd
      rcases hd with rfl | rfl | rfl | rfl | rfl | rfl <;> exact stay_V)) M1.drew ?_
  refine rel_load 27 _ rfl (w.heap.size) (0) rfl (fcells f) _ rfl rfl (fun w' hw' => (hw'.at 0 rfl).whole) Try.underlying27 rfl (by rw [fcells_size]; exact sizeFl) (fun _ => ?_)
  simp only [Act.put, List.setIfInBounds_toArray, List.set_cons_zero, List.set_cons_succ]
  refine rel_call (.agg (fcells f)) 6 #[.agg (fcells f)] rfl rfl rfl rfl (enters_of Try.func6 (by kernel_rfl) rfl) (fun w' _ => toField f w') (fun _ => ?_)
  simp only [Act.put, List.setIfInBounds_toArray, List.set_cons_zero, List.set_cons_succ]
  refine rel_load 29 _ rfl (w.heap.size + 1) (0) rfl (#[.int .i8 (a 0), .int .i8 (a 1), .int .i8 (a 2), .int .i8 (a 3)]) _ rfl rfl (fun w' hw' => (hw'.at 1 rfl).whole) Try.underlying29 rfl (by kernel_rfl) (fun _ => ?_)
  simp only [Act.put, List.setIfInBounds_toArray, List.set_cons_zero, List.set_cons_succ]
  refine rel_call (vNet a) 7 #[vNet a] rfl rfl rfl rfl (enters_of Try.func7 (by kernel_rfl) rfl) (fun w' _ => toNet_any a w') (fun _ => ?_)
  simp only [Act.put, List.setIfInBounds_toArray, List.set_cons_zero, List.set_cons_succ]
  refine rel_call (.bool (okF f && netOk f a)) 8 #[.agg (fcells f), vNet a] rfl rfl rfl rfl (enters_of Try.func8 (by kernel_rfl) rfl) (fun w' _ => implValidNet f hf a ha w') (fun _ => ?_)
  simp only [Act.put, List.setIfInBounds_toArray, List.set_cons_zero, List.set_cons_succ]
  refine rel_val _ rfl rfl (fun _ _ => rfl) (fun _ => ?_)
  simp only [Act.put, List.setIfInBounds_toArray, List.set_cons_zero, List.set_cons_succ]
  refine rel_nil (fun W2 inv => ?_)
  have M2 := inv.cls
  clear inv M1
  obtain ⟨q, hq⟩ : ∃ q, (okF f && netOk f a) = q := ⟨_, rfl⟩
  rw [hq]
  clear hq
  cases q
  all_goals go_wp2_with fail
  all_goals go_ret
  all_goals exact ⟨rfl, M2.below⟩

set_option maxRecDepth 100000 in
theorem lifted (os : Os) (started : os.Started) (H : Type) (enc : TypeId × Value → H) :
    ReturnsInHanded {} Try.checked os 3 .any (Rows.fnExactValidNetSpec.pre6 enc Try.prog Try.f3 Rows.fnExactValidNetRow.domain false) (Rows.fnExactValidNetSpec.post enc Try.prog Try.f3 false true false false) := by
  refine returnsInHanded_of_change (C := Try.checked) own started (by kernel_rfl) Try.func3
    (ChangeSpec.witness6 (enc := enc) (C := Try.checked) false ⟨#[], #[.agg (fcells Fd.zero), vNet (fun _ => 0)], []⟩ 8 (by kernel_rfl) (by kernel_rfl) (by kernel_rfl) (by kernel_rfl)) ?_
  intro W base args ds gs before hval0 hW hcnd _
  have hval : ∀ (j : Nat) t v, Try.f3.params[j]? = some t → args[j]? = some v → Value.okWide Try.prog W .any base t v := hval0
  have hW' := hW
  obtain ⟨p, q, hA0, hV, rfl, hfz, hnd⟩ := hW
  have hA : DataW.TrodAll enc Try.prog W 0 (fun _ => true) true Try.f3.params.toList args.toList ds p := hA0
  rw [Try.params3] at hA hval
  obtain ⟨v0, vs0, d0, ds0, p0, q0, hargs, rfl, rfl, h0, r0⟩ := trodAll_cons hA
  obtain ⟨v1, vs1, d1, ds1, p1, q1, rfl, rfl, rfl, h1, r1⟩ := trodAll_cons r0
  obtain ⟨rfl, rfl, rfl⟩ := trodAll_nil r1
  obtain rfl : args = #[v0, v1] := by cases args; simp_all
  obtain ⟨rfl, rfl⟩ := trodVars_none hV
  have k0 := h0
  have lt0 : ∀ x ∈ p0, x.block < W.heap.size := by obtain ⟨m, hm⟩ := k0; exact DataW.trod_lt m _ _ _ hm
  have k1 := h1
  have lt1 : ∀ x ∈ p1, x.block < W.heap.size := by obtain ⟨m, hm⟩ := k1; exact DataW.trod_lt m _ _ _ hm
  obtain ⟨f0, rfl, hf0⟩ := open_field (fs := Try.prog.fieldsOf 27) (by kernel_rfl) (by kernel_rfl) Try.underlying22 Try.underlying23 Try.underlying5 Try.underlying25 Try.underlying24 (by kernel_rfl) (by kernel_rfl) (by kernel_rfl) (by kernel_rfl) (by kernel_rfl) (by kernel_rfl) (hval 0 27 v0 rfl rfl) h0
  obtain ⟨a1, rfl, ha1⟩ := open_row1 (ks := ksNet) (fs := Try.prog.fieldsOf 29) (by kernel_rfl) (by kernel_rfl) (by kernel_rfl) (hval 1 29 v1 rfl rfl) h1
  clear hA0 hval0
  refine (walk f0 hf0 a1 ha1 W).mono fun e W' ⟨he, bel⟩ => ?_
  subst he
  exact ⟨_, rfl, _, _, _, [], _, [], hW', trodAll_mk1 (shut_bool Try.underlying4 _), (trodAll_cons_mk (Below.trod laidOut (by kernel_rfl) (of_decide_eq_true (by kernel_rfl)) k0 bel lt0) (trodAll_cons_mk (Below.trod laidOut (by kernel_rfl) (of_decide_eq_true (by kernel_rfl)) k1 bel lt1) trodAll_mk0)), rfl, bel.frame _, fun h => by cases h⟩

theorem over : Rows.fnExactValidNetRow.holds Try.pinned (OpenSpec.ofChange Rows.fnExactValidNetSpec) :=
  OpenClaim.holds_of_wide 3 Try.f3 rfl rfl rfl rfl rfl rfl rfl ⟨rfl, rfl, rfl, rfl, rfl⟩ rfl rfl rfl rfl rfl (by kernel_rfl) Try.func3 (by kernel_rfl)
    (of_decide_eq_true (by kernel_rfl)) (by unfold Func.isWrapper; first | (rw [if_pos (by decide +kernel)]; kernel_rfl) | (rw [if_neg (by decide +kernel)]; exact ⟨rfl, rfl⟩))
    (fun os started H enc _ => lifted os started H enc)

theorem proved : Rows.FnExactValidNetSaid := over
#print axioms proved
