/-
  HungerOf: for all fields and flocks.
-/
import Derived.Test.YtfnpbpokieckcaaDoorHunger
import Derived.Test.YtfnpbpokieckcaaDoorLawh
import Derived.Test.YtfnpbpokieckcaaDoorOpen
import Derived.Test.YtfnpbpokieckcaaDoorCard
import Derived.Test.YtfnpbpokieckcaaDoorRegM
import Derived.Test.YtfnpbpokieckcaaDoorFlkIn
import Derived.Test.YtfnpbpokieckcaaDoorTab
import Derived.Test.YtfnpbpokieckcaaDoorRows
import Derived.Test.YtfnpbpokieckcaaDoorCards
import Derived.Test.YtfnpbpokieckcaaDoorTie
import Derived.SevenTiedAt
namespace Go.Proofs.YtfnpbpokieckcaaDoor.lawHungerOf
open Go Go.ChangeShapes Go.WideShapes Go.ChangeAt Go.RowKit

set_option maxRecDepth 100000 in
set_option maxHeartbeats 2000000 in
theorem walk (f : Fd) (hf : f.Wf) (a : Nat → Int) (ha : WfR a) (A : Nat → Addr) (w : World) (T0 : TabAt w) (S0 : Sents w A) : Calls Tryd.prog 7 #[.agg (fcells f), vFlock a] w fun e w' => e = .returned (.bool true) ∧ Below w.heap.size w w' := by
  have S := Lib.hid S0
  have T := Lib.hid T0
  clear S0 T0
  go_enter Tryd.func7, Tryd.ntmps7
  go_upto_region 1 with (fail)
  obtain ⟨W, hW, M⟩ := open2 w (fcells f) 27 #[.int .i16 (a 0), .int .i16 (a 1), .int .i16 (a 2), .int .i16 (a 3), .int .i16 (a 4), .int .i8 (a 5)] 40
  rw [hW]; clear hW
  refine wp_region_rel (DL [dV (.agg (fcells f)), dV (.agg (fcells f)), dV (vFlock a), dV (vFlock a), dV (.tuple #[.int .i64 (hungerOf f a), .int .i64 (hungerCode f a)]), dV (.tuple #[.int .i64 (hungerOf f a), .int .i64 (hungerCode f a)]), dV (.int .i64 (hungerOf f a)), dV (.int .i64 (hungerCode f a)), dV (.int .i64 (hungerOf f a)), dV (.int .i64 (hungerCode f a))]) (fun w' => Mem w w' [⟨w.heap.size, fcells f, 27⟩, ⟨w.heap.size + 1, #[.int .i16 (a 0), .int .i16 (a 1), .int .i16 (a 2), .int .i16 (a 3), .int .i16 (a 4), .int .i8 (a 5)], 40⟩]) (by kernel_rfl) (by kernel_rfl) grows_mem
    (stays_DL (fun d hd => by
      simp only [List.mem_cons, List.mem_nil_iff, or_false] at hd
      rcases hd with rfl | rfl | rfl | rfl | rfl | rfl | rfl | rfl | rfl | rfl <;> exact stay_V)) M.drew ?_
  refine rel_load 27 _ rfl w.heap.size 0 rfl (fcells f) _ rfl rfl (fun w' hw' => (hw'.at 0 rfl).whole) Tryd.underlying27 rfl (by rw [fcells_size]; exact sizeFl) (fun x0 => ?_)
  simp only [Act.put, List.setIfInBounds_toArray, List.set_cons_zero, List.set_cons_succ]
  refine rel_call _ 11 #[.agg (fcells f)] rfl rfl rfl rfl (enters_of Tryd.func11 (by kernel_rfl) rfl) (fun w' _ => toField f w') (fun x1 => ?_)
  simp only [Act.put, List.setIfInBounds_toArray, List.set_cons_zero, List.set_cons_succ]
  refine rel_load 40 _ rfl (w.heap.size + 1) 0 rfl #[.int .i16 (a 0), .int .i16 (a 1), .int .i16 (a 2), .int .i16 (a 3), .int .i16 (a 4), .int .i8 (a 5)] _ rfl rfl (fun w' hw' => (hw'.at 1 rfl).whole) Tryd.underlying40 rfl (by kernel_rfl) (fun x2 => ?_)
  simp only [Act.put, List.setIfInBounds_toArray, List.set_cons_zero, List.set_cons_succ]
  refine rel_call _ 21 #[vFlock a] rfl rfl rfl rfl (enters_of Tryd.func21 (by kernel_rfl) rfl) (fun w' _ => toFlock_any a w') (fun x3 => ?_)
  simp only [Act.put, List.setIfInBounds_toArray, List.set_cons_zero, List.set_cons_succ]
  refine rel_call _ 20 #[.agg (fcells f), vFlock a] rfl rfl rfl rfl (enters_of Tryd.func20 (by kernel_rfl) rfl) (fun w' hw' => specHungerOf f hf a ha w') (fun x4 => ?_)
  simp only [Act.put, List.setIfInBounds_toArray, List.set_cons_zero, List.set_cons_succ]
  refine rel_val _ rfl rfl (fun _ _ => rfl) (fun x5 => ?_)
  simp only [Act.put, List.setIfInBounds_toArray, List.set_cons_zero, List.set_cons_succ]
  refine rel_val _ rfl rfl (fun _ _ => rfl) (fun x6 => ?_)
  simp only [Act.put, List.setIfInBounds_toArray, List.set_cons_zero, List.set_cons_succ]
  refine rel_val _ rfl rfl (fun _ _ => rfl) (fun x7 => ?_)
  simp only [Act.put, List.setIfInBounds_toArray, List.set_cons_zero, List.set_cons_succ]
  refine rel_val _ rfl rfl (fun _ _ => rfl) (fun x8 => ?_)
  simp only [Act.put, List.setIfInBounds_toArray, List.set_cons_zero, List.set_cons_succ]
  refine rel_val _ rfl rfl (fun _ _ => rfl) (fun x9 => ?_)
  refine rel_nil (fun W1 inv => ?_)
  simp only [Act.put, List.setIfInBounds_toArray, List.set_cons_zero, List.set_cons_succ]
  have M1 := inv.cls
  clear M inv
  go_upto_region 2 with (fail)
  refine wp_region_rel (DL [dV (.agg (fcells f)), dV (.agg (fcells f)), dV (vFlock a), dV (vFlock a), dV (.tuple #[.int .i64 (hungerOf f a), .int .i64 (hungerCode f a)]), dV (.tuple #[.int .i64 (hungerOf f a), .int .i64 (hungerCode f a)]), dV (.int .i64 (hungerOf f a)), dV (.int .i64 (hungerCode f a)), dV (.int .i64 (hungerOf f a)), dV (.int .i64 (hungerCode f a))]) (fun w' => Mem w w' [⟨w.heap.size, fcells f, 27⟩, ⟨w.heap.size + 1, #[.int .i16 (a 0), .int .i16 (a 1), .int .i16 (a 2), .int .i16 (a 3), .int .i16 (a 4), .int .i8 (a 5)], 40⟩]) (by kernel_rfl) (by kernel_rfl) grows_mem
    (stays_DL (fun d hd => by
      simp only [List.mem_cons, List.mem_nil_iff, or_false] at hd
      rcases hd with rfl | rfl | rfl | rfl | rfl | rfl | rfl | rfl | rfl | rfl <;> exact stay_V)) M1.drew ?_
  refine rel_load 27 _ rfl w.heap.size 0 rfl (fcells f) _ rfl rfl (fun w' hw' => (hw'.at 0 rfl).whole) Tryd.underlying27 rfl (by rw [fcells_size]; exact sizeFl) (fun x0 => ?_)
  simp only [Act.put, List.setIfInBounds_toArray, List.set_cons_zero, List.set_cons_succ]
  refine rel_call _ 11 #[.agg (fcells f)] rfl rfl rfl rfl (enters_of Tryd.func11 (by kernel_rfl) rfl) (fun w' _ => toField f w') (fun x1 => ?_)
  simp only [Act.put, List.setIfInBounds_toArray, List.set_cons_zero, List.set_cons_succ]
  refine rel_load 40 _ rfl (w.heap.size + 1) 0 rfl #[.int .i16 (a 0), .int .i16 (a 1), .int .i16 (a 2), .int .i16 (a 3), .int .i16 (a 4), .int .i8 (a 5)] _ rfl rfl (fun w' hw' => (hw'.at 1 rfl).whole) Tryd.underlying40 rfl (by kernel_rfl) (fun x2 => ?_)
  simp only [Act.put, List.setIfInBounds_toArray, List.set_cons_zero, List.set_cons_succ]
  refine rel_call _ 21 #[vFlock a] rfl rfl rfl rfl (enters_of Tryd.func21 (by kernel_rfl) rfl) (fun w' _ => toFlock_any a w') (fun x3 => ?_)
  simp only [Act.put, List.setIfInBounds_toArray, List.set_cons_zero, List.set_cons_succ]
  refine rel_call _ 22 #[.agg (fcells f), vFlock a] rfl rfl rfl rfl (enters_of Tryd.func22 (by kernel_rfl) rfl) (fun w' hw' => implHungerOf f hf a ha A w' (T.out.later hw'.below) (S.out.later hw'.below)) (fun x4 => ?_)
  simp only [Act.put, List.setIfInBounds_toArray, List.set_cons_zero, List.set_cons_succ]
  refine rel_val _ rfl rfl (fun _ _ => rfl) (fun x5 => ?_)
  simp only [Act.put, List.setIfInBounds_toArray, List.set_cons_zero, List.set_cons_succ]
  refine rel_val _ rfl rfl (fun _ _ => rfl) (fun x6 => ?_)
  simp only [Act.put, List.setIfInBounds_toArray, List.set_cons_zero, List.set_cons_succ]
  refine rel_val _ rfl rfl (fun _ _ => rfl) (fun x7 => ?_)
  simp only [Act.put, List.setIfInBounds_toArray, List.set_cons_zero, List.set_cons_succ]
  refine rel_val _ rfl rfl (fun _ _ => rfl) (fun x8 => ?_)
  simp only [Act.put, List.setIfInBounds_toArray, List.set_cons_zero, List.set_cons_succ]
  refine rel_val _ rfl rfl (fun _ _ => rfl) (fun x9 => ?_)
  refine rel_nil (fun W2 inv => ?_)
  simp only [Act.put, List.setIfInBounds_toArray, List.set_cons_zero, List.set_cons_succ]
  have M2 := inv.cls
  clear M1 inv
  go_wp2_with (fail)
  go_ret
  exact ⟨rfl, M2.below⟩

theorem trodVars_len {H : Type} {enc : TypeId × Value → H} {P : Program} {w : World} {sp : Nat → Bool} : ∀ {ns : List String} {gs : List (DataW H)} {ps : List MemPlace}, DataW.TrodVars enc P w sp ns gs ps → gs.length = ns.length
  | [], [], _, _ => rfl
  | [], _ :: _, _, h => h.elim
  | _ :: _, [], _, h => h.elim
  | _ :: _, _ :: _, _, ⟨_, _, _, _, _, _, _, _, _, _, h, _⟩ => congrArg (· + 1) (trodVars_len h)
theorem open_row1 {H : Type} {enc : TypeId × Value → H} {P : Program} {w : World} {b0 base : Nat} {r : Reach} {spare : Nat → Bool} {held : Bool} {t : TypeId} {fs : Array Field} {ks : List IntKind} {v : Value} {d : DataW H} {pl : List MemPlace}
    (he : P.underlying t = some (.struct fs)) (hC : P.cellsOf t = ks.length) (hfi : intFields P ks fs = true) (hv : Value.okWide P w r b0 t v) (h : DataW.Trod enc P w base spare held t v d pl) :
    ∃ a : Nat → Int, v = .agg (srow ks (fun _ => a) 0) ∧ WfS ks 1 (fun _ => a) := by
  obtain ⟨hsz, hf⟩ := intFields_of hfi
  obtain ⟨cs, rfl, hs⟩ := okWide_struct he hv
  obtain ⟨fuel, hfu⟩ := h
  obtain ⟨ys, n2, _, _, _, hyl, hfl⟩ := DataW.trod_struct he hfu
  have key : ∀ j, ∃ k : Int, j < ks.length → cs[j]? = some (.int (ks.getD j .i64) k) ∧ (Lit.int (ks.getD j .i64) k).wf = true := fun j => by
    by_cases hj : j < ks.length
    · have hjf : j < fs.size := by omega
      have hfj : fs[j]? = some fs[j] := Array.getElem?_eq_getElem hjf
      obtain ⟨ho, hc1, hu⟩ := hf j _ hfj
      have h1 := hfl j _ hfj
      rw [ho, hc1, List.getElem?_eq_getElem (by omega)] at h1
      obtain ⟨k, e1, e2⟩ := part_int hu h1
      exact ⟨k, fun _ => ⟨by simpa [Value.cells] using e1, e2⟩⟩
    · exact ⟨0, fun h => absurd h hj⟩
  obtain ⟨a, ha⟩ : ∃ a : Nat → Int, ∀ j, j < ks.length → cs[j]? = some (.int (ks.getD j .i64) (a j)) ∧ (Lit.int (ks.getD j .i64) (a j)).wf = true := ⟨fun j => Classical.choose (key j), fun j => Classical.choose_spec (key j)⟩
  refine ⟨a, ?_, fun i _ j hj => (ha j hj).2⟩
  congr 1
  apply Array.ext_getElem?
  intro j
  by_cases hj : j < ks.length
  · rw [(ha j hj).1, srow_get _ _ _ _ hj]; rfl
  · rw [Array.getElem?_eq_none (by omega), Array.getElem?_eq_none (by rw [srow_size]; omega)]

theorem door_met (os : Os) (args : Array Value) : laidMetH Tryd.prog Rows.fnExactHungerOfRow.laid ((World.doorLaid Tryd.prog 400 os).forCall (fun _ _ => 0) ⟨#[], args, []⟩).memory :=
  laidMetH_of_parts3 (fuel := 8) (laidMet_of_run' 8 (by kernel_rfl) (by kernel_rfl)) (by kernel_rfl) (by kernel_rfl)
set_option maxRecDepth 100000 in
theorem lifted (os : Os) (started : os.Started) (H : Type) (enc : TypeId × Value → H) :
    ReturnsInHanded {} Tryd.checked os 7 .any (fun w args => (Rows.fnExactHungerOfSpec.pre enc Tryd.prog Tryd.f7 Rows.fnExactHungerOfRow.domain false w args ∧ laidMetH Tryd.prog Rows.fnExactHungerOfRow.laid w) ∧ sizedMet enc Tryd.prog Tryd.f7 (OpenSpec.ofChange Rows.fnExactHungerOfSpec) false w args) (Rows.fnExactHungerOfSpec.post enc Tryd.prog Tryd.f7 false true false false) := by
  refine returnsInHanded_of_change_and (C := Tryd.checked) (X := fun w _ => laidMetH Tryd.prog Rows.fnExactHungerOfRow.laid w) (fun _ _ _ hh h => h.of_heap hh) own started (by kernel_rfl) Tryd.func7
    (ChangeSpec.witness_shaped (enc := enc) (C := Tryd.checked) (os := os) (X := fun w _ => laidMetH Tryd.prog Rows.fnExactHungerOfRow.laid w) false (World.doorLaid Tryd.prog 400 os) #[.agg (fcells Fd.zero), vFlock (fun _ => 0)] 8 rfl (World.shaped_of_RefB (by kernel_rfl) (by kernel_rfl)) (by kernel_rfl) (by kernel_rfl) (by kernel_rfl) (door_met os _)) ?_
  intro W base args ds gs before hval0 hW _ _ hL _
  have hval : ∀ (j : Nat) t v, Tryd.f7.params[j]? = some t → args[j]? = some v → Value.okWide Tryd.prog W .any base t v := hval0
  have hW' := hW
  obtain ⟨p, q, hA0, hV0, rfl, hfz, hnd⟩ := hW
  have hA : DataW.TrodAll enc Tryd.prog W 0 (fun _ => true) true Tryd.f7.params.toList args.toList ds p := hA0
  have hV : DataW.TrodVars enc Tryd.prog W (fun _ => true) Rows.fnExactHungerOfSpec.vars gs q := hV0
  rw [Tryd.params7] at hA hval
  obtain ⟨v0, vs0, d0, ds0, p0, q0, hargs, rfl, rfl, h0, r0⟩ := trodAll_cons hA
  obtain ⟨v1, vs1, d1, ds1, p1, q1, rfl, rfl, rfl, h1, r1⟩ := trodAll_cons r0
  obtain ⟨rfl, rfl, rfl⟩ := trodAll_nil r1
  obtain rfl : args = #[v0, v1] := by cases args; simp_all
  rw [MakeChecks.laidMetH_plain _ _ _ (by kernel_rfl)] at hL
  obtain ⟨A, SV⟩ := sentVars (rest := [(tabName, Rows.laid_loop_example_g01338_impl_mostOfFlock)]) hL
  have T : TabAt W := by
    obtain ⟨ps, hv, _, _⟩ := hL
    obtain ⟨_, _, _, _, _, _, _, _, _, _, hv, _⟩ := hv
    obtain ⟨_, _, _, _, _, _, _, _, _, _, hv, _⟩ := hv
    obtain ⟨_, _, _, _, _, _, _, _, _, _, hv, _⟩ := hv
    obtain ⟨_, _, _, _, _, _, _, _, _, _, hv, _⟩ := hv
    obtain ⟨_, _, _, _, _, _, _, _, _, _, hv, _⟩ := hv
    obtain ⟨_, _, _, _, _, _, _, _, _, _, hv, _⟩ := hv
    obtain ⟨_, _, _, _, _, _, _, _, _, _, hv, _⟩ := hv
    obtain ⟨_, _, _, _, _, _, _, _, _, _, hv, _⟩ := hv
    exact tab_of hv
  have hlen := trodVars_len hV
  obtain ⟨g1, g2, g3, g4, g5, g6, g7, g8, g9, rfl⟩ : ∃ g1 g2 g3 g4 g5 g6 g7 g8 g9, gs = [g1, g2, g3, g4, g5, g6, g7, g8, g9] := by
    match gs, hlen with
    | [g1, g2, g3, g4, g5, g6, g7, g8, g9], _ => exact ⟨g1, g2, g3, g4, g5, g6, g7, g8, g9, rfl⟩
  have k0 := h0
  have lt0 : ∀ x ∈ p0, x.block < W.heap.size := by obtain ⟨m, hm⟩ := k0; exact DataW.trod_lt m _ _ _ hm
  have k1 := h1
  have lt1 : ∀ x ∈ p1, x.block < W.heap.size := by obtain ⟨m, hm⟩ := k1; exact DataW.trod_lt m _ _ _ hm
  obtain ⟨f0, rfl, hf0⟩ := open_field (fs := Tryd.prog.fieldsOf 27) (by kernel_rfl) (by kernel_rfl) Tryd.underlying22 Tryd.underlying23 Tryd.underlying5 Tryd.underlying25 Tryd.underlying24 (by kernel_rfl) (by kernel_rfl) (by kernel_rfl) (by kernel_rfl) (by kernel_rfl) (by kernel_rfl) (hval 0 27 v0 rfl rfl) h0
  obtain ⟨a1, rfl, ha1⟩ := open_row1 (ks := ksFlock) (fs := Tryd.prog.fieldsOf 40) (by kernel_rfl) (by kernel_rfl) (by kernel_rfl) (hval 1 40 v1 rfl rfl) h1
  clear hA0 hval0 hV0
  refine (walk f0 hf0 a1 (WfS.row (n := 1) (F := fun _ => a1) ha1 (i := 0) (by omega)) A W T SV.sents).mono fun e W' ⟨he, bel⟩ => ?_
  subst he
  exact ⟨_, rfl, _, _, _, [], _, _, hW', trodAll_mk1 (shut_bool Tryd.underlying4 _), (trodAll_cons_mk (Below.trod laidOut (by kernel_rfl) (of_decide_eq_true (by kernel_rfl)) k0 bel lt0) (trodAll_cons_mk (Below.trod laidOut (by kernel_rfl) (of_decide_eq_true (by kernel_rfl)) k1 bel lt1) trodAll_mk0)), Below.trodVars laidOut bel (by kernel_rfl) hV, bel.frame _, fun h => by cases h⟩

end Go.Proofs.YtfnpbpokieckcaaDoor.lawHungerOf
