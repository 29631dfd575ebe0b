/-
  EatOnce: for every field (valid or not) and all further arguments the program answers as the model does: no condition beyond the listed variables, which the card ties to the program's text.
-/
import Derived.Test.YtaccpnpoeikaaaaDoorEatI
import Derived.Test.YtaccpnpoeikaaaaDoorFears2
import Derived.Test.YtaccpnpoeikaaaaDoorRow1
import Derived.Test.YtaccpnpoeikaaaaDoorEqF
import Derived.Test.YtaccpnpoeikaaaaDoorTab
import Derived.Test.YtaccpnpoeikaaaaDoorCoreB
import Derived.Test.YtaccpnpoeikaaaaDoorLawh
import Derived.Test.YtaccpnpoeikaaaaDoorCard
import Derived.Test.YtaccpnpoeikaaaaDoorTie
import Derived.Test.YtaccpnpoeikaaaaDoorCards
import Derived.SevenTiedAt
import Derived.OpenVars
namespace Go.Proofs.YtaccpnpoeikaaaaDoor.lawEatOnce
open Go Go.ChangeShapes Go.WideShapes Go.ChangeAt Go.RowKit

theorem sizeL16 : (Tryd.prog.info? 25).map (·.size) = some 100 := by kernel_rfl
theorem load_i8Q (b off : Nat) (n : Int) (w : World) (c : w.cell? ⟨b, off, none⟩ = some (.int .i8 n)) : (Instr.loadAt 22 (.pointer (some ⟨b, off, none⟩))).run Tryd.prog w = .ok (.int .i8 n) w := by
  simp [go_sem, c]
set_option maxRecDepth 100000 in
theorem eqVisit_same (c n : Int) (w : World) : Calls Tryd.prog 23 #[.agg (vis c n), .agg (vis c n)] w fun e w' => e = .returned (.bool true) ∧ Below w.heap.size w w' := by
  unfold vis
  go_enter Tryd.func23, Tryd.ntmps23
  go_upto_region 1 with (fail)
  obtain ⟨W, hW, M⟩ := open2 w (vis c n) 53 (vis c n) 53
  unfold vis at hW
  rw [hW]; clear hW
  have x0 := (M.at 0 rfl).cell (i := 0) (v := .int .i8 0) rfl
  have x1 := (M.at 0 rfl).cell (i := 1) (v := .int .i16 c) rfl
  have x2 := (M.at 0 rfl).cell (i := 2) (v := .int .i16 n) rfl
  have y0 := (M.at 1 rfl).cell (i := 0) (v := .int .i8 0) rfl
  have y1 := (M.at 1 rfl).cell (i := 1) (v := .int .i16 c) rfl
  have y2 := (M.at 1 rfl).cell (i := 2) (v := .int .i16 n) rfl
  go_wp2_with fail
  go_ret
  exact ⟨rfl, M.below⟩
theorem eaV_vis (f : Fd) (g a : Nat → Int) : ∃ c n, eaV f g a = vis c n := by
  unfold eaV; split
  · exact ⟨_, _, rfl⟩
  · exact ⟨_, _, rfl⟩
set_option maxRecDepth 100000 in
set_option maxHeartbeats 8000000 in
theorem walk (w : World) (f : Fd) (hff : f.Wf) (g : Nat → Int) (hvg : ∀ i, i < 100 → (Lit.int .i16 (g i)).wf = true) (a : Nat → Int) (hsa : WfS ksFlock 1 (fun _ => a)) (A : Nat → Addr) (T0 : TabAt w) (S0 : Sents w A) : Calls Tryd.prog 6 #[.agg (fcells f), .agg (acells .i16 100 g), vFlock a] w fun e w' => e = .returned (.bool true) ∧ Below w.heap.size w w' := by
  have S : Hid (Sents w A) := Lib.hid S0
  have T : Hid (TabAt w) := Lib.hid T0
  clear S0 T0
  have hwg : Wf16 g := fun i hi => bounds_i16 (hvg i hi)
  clear hvg
  have hra : WfR a := WfS.row hsa (i := 0) (by omega)
  clear hsa
  have hz : Hid (Tryd.zeroCells35.size = 202) := Lib.hid (by rw [zeroFd, fcells_size])
  obtain ⟨hw, hh⟩ := eaF_size f hff g a
  have HS := Lib.hid (fun w => specEatOnce f hff g hwg a hra w)
  have HP := Lib.hid (fun w T S => implEatOnce f hff g hwg a hra A w T S)
  obtain ⟨vc, vn, hvv⟩ := eaV_vis f g a
  rw [hvv] at HS HP
  clear hvv
  obtain ⟨FF, hFF⟩ : ∃ FF, eaF f g a = FF := ⟨_, rfl⟩
  obtain ⟨cd, hcd⟩ : ∃ cd, eaCode f g a = cd := ⟨_, rfl⟩
  rw [hFF, hcd] at HS HP
  rw [hFF] at hw hh
  clear hFF hcd hff hwg hra
  go_enter Tryd.func6, Tryd.ntmps6
  go_upto_region 1 with (fail)
  obtain ⟨W, hW, M⟩ := open3 w (fcells f) 27 (acells .i16 100 g) 25 (flc a) 29
  unfold flc at hW
  rw [hW]; clear hW
  refine wp_region_rel_edges [(13, 9), (13, 10)] 13 (DL [dV (.agg (fcells f)), dV (.agg (fcells f)), dV (.agg (acells .i16 100 g)), dV (.agg (acells .i16 100 g)), dV (.agg (flc a)), dV (vFlock a), dV (.tuple #[.agg (fcells FF), .agg (vis vc vn), .int .i64 cd]), dV (.tuple #[.agg (fcells FF), .agg (vis vc vn), .int .i64 cd]), dV (.agg (fcells FF)), dV (.agg (vis vc vn)), dV (.int .i64 cd), dB (Tryd.zeroCells35) 35, dB (vis 0 0) 53]) (C := fun w' => Mem w w' [⟨w.heap.size, fcells f, 27⟩, ⟨w.heap.size + 1, acells .i16 100 g, 25⟩, ⟨w.heap.size + 1 + 1, flc a, 29⟩]) (fun _ _ _ _ _ h => h) (by kernel_rfl) (by kernel_rfl) (by kernel_rfl) grows_mem
    (stays_DL (fun d hd => by
      simp only [List.mem_cons, List.mem_nil_iff, or_false] at hd
      rcases hd with rfl | rfl | rfl | rfl | rfl | rfl | rfl | rfl | rfl | rfl | rfl | rfl | rfl <;> first | exact stay_V | exact stay_B)) M.drew ?_
  refine rel_load 27 _ rfl (w.heap.size) (0) rfl (fcells f) _ rfl rfl (fun w' hw' => (hw'.at 0 rfl).whole) Tryd.underlying27 rfl (by rw [fcells_size]; exact sizeFl) (fun _ => ?_)
  simp only [Act.put, List.setIfInBounds_toArray, List.set_cons_zero, List.set_cons_succ]
  refine rel_call (.agg (fcells f)) 8 #[.agg (fcells f)] rfl rfl rfl rfl (enters_of Tryd.func8 (by kernel_rfl) rfl) (fun w' _ => toField f w') (fun _ => ?_)
  simp only [Act.put, List.setIfInBounds_toArray, List.set_cons_zero, List.set_cons_succ]
  refine rel_load 25 _ rfl (w.heap.size + 1) (0) rfl (acells .i16 100 g) _ rfl rfl (fun w' hw' => (hw'.at 1 rfl).whole) Tryd.underlying25 rfl (by rw [acells_size]; exact sizeL16) (fun _ => ?_)
  simp only [Act.put, List.setIfInBounds_toArray, List.set_cons_zero, List.set_cons_succ]
  refine rel_call (.agg (acells .i16 100 g)) 9 #[.agg (acells .i16 100 g)] rfl rfl rfl rfl (enters_of Tryd.func9 (by kernel_rfl) rfl) (fun w' _ => toFears g w') (fun _ => ?_)
  simp only [Act.put, List.setIfInBounds_toArray, List.set_cons_zero, List.set_cons_succ]
  refine rel_load 29 _ rfl (w.heap.size + 1 + 1) (0) rfl (flc a) _ rfl rfl (fun w' hw' => (hw'.at 2 rfl).whole) Tryd.underlying29 rfl (by kernel_rfl) (fun _ => ?_)
  simp only [Act.put, List.setIfInBounds_toArray, List.set_cons_zero, List.set_cons_succ]
  refine rel_call (vFlock a) 10 #[vFlock a] rfl rfl rfl rfl (enters_of Tryd.func10 (by kernel_rfl) rfl) (fun w' _ => toFlock_any a w') (fun _ => ?_)
  simp only [Act.put, List.setIfInBounds_toArray, List.set_cons_zero, List.set_cons_succ]
  refine rel_call (.tuple #[.agg (fcells FF), .agg (vis vc vn), .int .i64 cd]) 20 #[.agg (fcells f), .agg (acells .i16 100 g), vFlock a] rfl rfl rfl rfl (enters_of Tryd.func20 (by kernel_rfl) rfl) (fun w' hw' => HS.out w') (fun _ => ?_)
  simp only [Act.put, List.setIfInBounds_toArray, List.set_cons_zero, List.set_cons_succ]
  refine rel_val _ rfl rfl (fun _ _ => rfl) (fun _ => ?_)
  simp only [Act.put, List.setIfInBounds_toArray, List.set_cons_zero, List.set_cons_succ]
  refine rel_val _ rfl rfl (fun _ _ => rfl) (fun _ => ?_)
  simp only [Act.put, List.setIfInBounds_toArray, List.set_cons_zero, List.set_cons_succ]
  refine rel_val _ rfl rfl (fun _ _ => rfl) (fun _ => ?_)
  simp only [Act.put, List.setIfInBounds_toArray, List.set_cons_zero, List.set_cons_succ]
  refine rel_val _ rfl rfl (fun _ _ => rfl) (fun _ => ?_)
  simp only [Act.put, List.setIfInBounds_toArray, List.set_cons_zero, List.set_cons_succ]
  refine rel_alloc (Tryd.zeroCells35) 35 rfl rfl (fun _ => by rfl) (fun nspec => ?_)
  simp only [Act.put, List.setIfInBounds_toArray, List.set_cons_zero, List.set_cons_succ]
  refine rel_alloc (vis 0 0) 53 rfl rfl (fun _ => by rfl) (fun mspec => ?_)
  simp only [Act.put, List.setIfInBounds_toArray, List.set_cons_zero, List.set_cons_succ]
  refine rel_nil (fun W1 inv => ?_)
  have MA := inv.mem2 (i := 11) (j := 12) M inv.cls rfl rfl (by decide)
  clear inv M
  change wpList _ _ _ (_ :: _ :: [_]) _ _
  generalize List.toArray (List.foldl addEdge _ _) = ops9
  refine wpList_store_row rfl 35 _ _ rfl nspec (fcells FF) rfl rfl 35 _ (MA.at 3 rfl) (by rw [fcells_size]; exact sizeFd) (by rw [hz.out, fcells_size]) (fcells_one _) ?_
  have MB := MA.row 3 rfl (fcells FF)
  clear MA
  refine wpList_store_row rfl 53 _ _ rfl mspec (vis vc vn) rfl rfl 53 _ (MB.at 4 rfl) (by rw [vis_size]; exact sizeVis) (by simp only [vis_size]) (vis_one _ _) ?_
  have MC := MB.row 4 rfl (vis vc vn)
  clear MB
  generalize World.setRow _ _ _ = Vspec at MC ⊢
  have Nspec : Mem w Vspec [⟨w.heap.size, fcells f, 27⟩, ⟨w.heap.size + 1, acells .i16 100 g, 25⟩, ⟨w.heap.size + 1 + 1, flc a, 29⟩, ⟨nspec, fcells FF, 35⟩, ⟨mspec, vis vc vn, 53⟩] := MC
  clear MC
  go_upto_region 2 with (fail)
  refine wp_region_rel_edges [(13, 9), (13, 10)] 13 (DL [dV (.agg (fcells f)), dV (.agg (fcells f)), dV (.agg (acells .i16 100 g)), dV (.agg (acells .i16 100 g)), dV (.agg (flc a)), dV (vFlock a), dV (.tuple #[.agg (fcells FF), .agg (vis vc vn), .int .i64 cd]), dV (.tuple #[.agg (fcells FF), .agg (vis vc vn), .int .i64 cd]), dV (.agg (fcells FF)), dV (.agg (vis vc vn)), dV (.int .i64 cd), dB (Tryd.zeroCells35) 35, dB (vis 0 0) 53]) (C := fun w' => Mem w w' [⟨w.heap.size, fcells f, 27⟩, ⟨w.heap.size + 1, acells .i16 100 g, 25⟩, ⟨w.heap.size + 1 + 1, flc a, 29⟩, ⟨nspec, fcells FF, 35⟩, ⟨mspec, vis vc vn, 53⟩]) (fun _ _ _ _ _ h => h) (by kernel_rfl) (by kernel_rfl) (by kernel_rfl) grows_mem
    (stays_DL (fun d hd => by
      simp only [List.mem_cons, List.mem_nil_iff, or_false] at hd
      rcases hd with rfl | rfl | rfl | rfl | rfl | rfl | rfl | rfl | rfl | rfl | rfl | rfl | rfl <;> first | exact stay_V | exact stay_B)) Nspec.drew ?_
  refine rel_load 27 _ rfl (w.heap.size) (0) rfl (fcells f) _ rfl rfl (fun w' hw' => (hw'.at 0 rfl).whole) Tryd.underlying27 rfl (by rw [fcells_size]; exact sizeFl) (fun _ => ?_)
  simp only [Act.put, List.setIfInBounds_toArray, List.set_cons_zero, List.set_cons_succ]
  refine rel_call (.agg (fcells f)) 8 #[.agg (fcells f)] rfl rfl rfl rfl (enters_of Tryd.func8 (by kernel_rfl) rfl) (fun w' _ => toField f w') (fun _ => ?_)
  simp only [Act.put, List.setIfInBounds_toArray, List.set_cons_zero, List.set_cons_succ]
  refine rel_load 25 _ rfl (w.heap.size + 1) (0) rfl (acells .i16 100 g) _ rfl rfl (fun w' hw' => (hw'.at 1 rfl).whole) Tryd.underlying25 rfl (by rw [acells_size]; exact sizeL16) (fun _ => ?_)
  simp only [Act.put, List.setIfInBounds_toArray, List.set_cons_zero, List.set_cons_succ]
  refine rel_call (.agg (acells .i16 100 g)) 9 #[.agg (acells .i16 100 g)] rfl rfl rfl rfl (enters_of Tryd.func9 (by kernel_rfl) rfl) (fun w' _ => toFears g w') (fun _ => ?_)
  simp only [Act.put, List.setIfInBounds_toArray, List.set_cons_zero, List.set_cons_succ]
  refine rel_load 29 _ rfl (w.heap.size + 1 + 1) (0) rfl (flc a) _ rfl rfl (fun w' hw' => (hw'.at 2 rfl).whole) Tryd.underlying29 rfl (by kernel_rfl) (fun _ => ?_)
  simp only [Act.put, List.setIfInBounds_toArray, List.set_cons_zero, List.set_cons_succ]
  refine rel_call (vFlock a) 10 #[vFlock a] rfl rfl rfl rfl (enters_of Tryd.func10 (by kernel_rfl) rfl) (fun w' _ => toFlock_any a w') (fun _ => ?_)
  simp only [Act.put, List.setIfInBounds_toArray, List.set_cons_zero, List.set_cons_succ]
  refine rel_call (.tuple #[.agg (fcells FF), .agg (vis vc vn), .int .i64 cd]) 21 #[.agg (fcells f), .agg (acells .i16 100 g), vFlock a] rfl rfl rfl rfl (enters_of Tryd.func21 (by kernel_rfl) rfl) (fun w' hw' => HP.out w' (T.out.later hw'.below) (S.out.later hw'.below)) (fun _ => ?_)
  simp only [Act.put, List.setIfInBounds_toArray, List.set_cons_zero, List.set_cons_succ]
  refine rel_val _ rfl rfl (fun _ _ => rfl) (fun _ => ?_)
  simp only [Act.put, List.setIfInBounds_toArray, List.set_cons_zero, List.set_cons_succ]
  refine rel_val _ rfl rfl (fun _ _ => rfl) (fun _ => ?_)
  simp only [Act.put, List.setIfInBounds_toArray, List.set_cons_zero, List.set_cons_succ]
  refine rel_val _ rfl rfl (fun _ _ => rfl) (fun _ => ?_)
  simp only [Act.put, List.setIfInBounds_toArray, List.set_cons_zero, List.set_cons_succ]
  refine rel_val _ rfl rfl (fun _ _ => rfl) (fun _ => ?_)
  simp only [Act.put, List.setIfInBounds_toArray, List.set_cons_zero, List.set_cons_succ]
  refine rel_alloc (Tryd.zeroCells35) 35 rfl rfl (fun _ => by rfl) (fun nimpl => ?_)
  simp only [Act.put, List.setIfInBounds_toArray, List.set_cons_zero, List.set_cons_succ]
  refine rel_alloc (vis 0 0) 53 rfl rfl (fun _ => by rfl) (fun mimpl => ?_)
  simp only [Act.put, List.setIfInBounds_toArray, List.set_cons_zero, List.set_cons_succ]
  refine rel_nil (fun W6 inv => ?_)
  have MA := inv.mem2 (i := 11) (j := 12) Nspec inv.cls rfl rfl (by decide)
  clear inv Nspec
  change wpList _ _ _ (_ :: _ :: [_]) _ _
  generalize List.toArray (List.foldl addEdge _ _) = ops9
  refine wpList_store_row rfl 35 _ _ rfl nimpl (fcells FF) rfl rfl 35 _ (MA.at 5 rfl) (by rw [fcells_size]; exact sizeFd) (by rw [hz.out, fcells_size]) (fcells_one _) ?_
  have MB := MA.row 5 rfl (fcells FF)
  clear MA
  refine wpList_store_row rfl 53 _ _ rfl mimpl (vis vc vn) rfl rfl 53 _ (MB.at 6 rfl) (by rw [vis_size]; exact sizeVis) (by simp only [vis_size]) (vis_one _ _) ?_
  have MC := MB.row 6 rfl (vis vc vn)
  clear MB
  generalize World.setRow _ _ _ = Vimpl at MC ⊢
  have Nimpl : Mem w Vimpl [⟨w.heap.size, fcells f, 27⟩, ⟨w.heap.size + 1, acells .i16 100 g, 25⟩, ⟨w.heap.size + 1 + 1, flc a, 29⟩, ⟨nspec, fcells FF, 35⟩, ⟨mspec, vis vc vn, 53⟩, ⟨nimpl, fcells FF, 35⟩, ⟨mimpl, vis vc vn, 53⟩] := MC
  clear MC
  have ok1 : True := trivial
  have ok2 : True := trivial
  have ok3 : True := trivial
  have ok4 : True := trivial
  go_wp2_with (first
    | (clear ok1; refine wpList_load_part rfl 35 _ rfl nimpl 0 rfl (fcells FF) _ (Nimpl.at 5 rfl).whole Tryd.underlying35 rfl (by rw [fcells_size]; exact sizeFd) ?_)
    | (clear ok2; refine wpList_load_part rfl 35 _ rfl nspec 0 rfl (fcells FF) _ (Nimpl.at 3 rfl).whole Tryd.underlying35 rfl (by rw [fcells_size]; exact sizeFd) ?_)
    | (go_at_call 22; refine (eqField_same FF hw hh _).mono ?_; rintro e W7 ⟨rfl, hb⟩; have M7 := Nimpl.call hb; clear Nimpl hb)
    | (clear ok3; refine wpList_load_wanted rfl 53 _ rfl mimpl 0 rfl (vis vc vn) _ (M7.at 6 rfl).whole Tryd.underlying53 rfl (by rw [vis_size]; exact sizeVis) ?_)
    | (clear ok4; refine wpList_load_wanted rfl 53 _ rfl mspec 0 rfl (vis vc vn) _ (M7.at 4 rfl).whole Tryd.underlying53 rfl (by rw [vis_size]; exact sizeVis) ?_)
    | (go_at_call 23; refine (eqVisit_same vc vn _).mono ?_; rintro e W8 ⟨rfl, hb⟩; have M8 := M7.call hb; clear M7 hb))
  go_ret
  exact ⟨rfl, M8.below⟩
theorem trodVars_len {H : Type} {enc : TypeId × Value → H} {P : Program} {w : World} {sp : Nat → Bool} : ∀ {ns : List String} {gs : List (DataW H)} {ps : List MemPlace}, DataW.TrodVars enc P w sp ns gs ps → gs.length = ns.length
  | [], [], _, _ => rfl
  | [], _ :: _, _, h => h.elim
  | _ :: _, [], _, h => h.elim
  | _ :: _, _ :: _, _, ⟨_, _, _, _, _, _, _, _, _, _, h, _⟩ => congrArg (· + 1) (trodVars_len h)
theorem door_met (os : Os) (args : Array Value) : laidMetH Tryd.prog Rows.fnExactEatOnceRow.laid ((World.doorLaid Tryd.prog 400 os).forCall (fun _ _ => 0) ⟨#[], args, []⟩).memory :=
  laidMetH_of_parts3 (fuel := 8) (laidMet_of_run' 8 (by kernel_rfl) (by kernel_rfl)) (by kernel_rfl) (by kernel_rfl)
set_option maxRecDepth 100000 in
theorem lifted (os : Os) (started : os.Started) (H : Type) (enc : TypeId × Value → H) :
    ReturnsInHanded {} Tryd.checked os 6 .any (fun w args => (Rows.fnExactEatOnceSpec.pre enc Tryd.prog Tryd.f6 Rows.fnExactEatOnceRow.domain false w args ∧ laidMetH Tryd.prog Rows.fnExactEatOnceRow.laid w) ∧ sizedMet enc Tryd.prog Tryd.f6 (OpenSpec.ofChange Rows.fnExactEatOnceSpec) false w args) (Rows.fnExactEatOnceSpec.post enc Tryd.prog Tryd.f6 false true false false) := by
  refine returnsInHanded_of_change_and (C := Tryd.checked) (X := fun w _ => laidMetH Tryd.prog Rows.fnExactEatOnceRow.laid w) (fun _ _ _ hh h => h.of_heap hh) own started (by kernel_rfl) Tryd.func6
    (ChangeSpec.witness_shaped (enc := enc) (C := Tryd.checked) (os := os) (X := fun w _ => laidMetH Tryd.prog Rows.fnExactEatOnceRow.laid w) false (World.doorLaid Tryd.prog 400 os) #[.agg (fcells Fd.zero), .agg (acells .i16 100 (fun _ => 0)), vFlock (fun _ => 0)] 8 rfl (World.shaped_of_RefB (by kernel_rfl) (by kernel_rfl)) (by kernel_rfl) (by kernel_rfl) (by kernel_rfl) (door_met os _)) ?_
  intro W base args ds gs before hval0 hW _ _ hL _
  have hval : ∀ (j : Nat) t v, Tryd.f6.params[j]? = some t → args[j]? = some v → Value.okWide Tryd.prog W .any base t v := hval0
  have hW' := hW
  obtain ⟨p, q, hA0, hV0, rfl, hfz, hnd⟩ := hW
  have hA : DataW.TrodAll enc Tryd.prog W 0 (fun _ => true) true Tryd.f6.params.toList args.toList ds p := hA0
  have hV : DataW.TrodVars enc Tryd.prog W (fun _ => true) Rows.fnExactEatOnceSpec.vars gs q := hV0
  rw [Tryd.params6] at hA hval
  obtain ⟨v0, vs0, d0, ds0, p0, q0, hargs, rfl, rfl, h0, r0⟩ := trodAll_cons hA
  obtain ⟨v1, vs1, d1, ds1, p1, q1, rfl, rfl, rfl, h1, r1⟩ := trodAll_cons r0
  obtain ⟨v2, vs2, d2, ds2, p2, q2, rfl, rfl, rfl, h2, r2⟩ := trodAll_cons r1
  obtain ⟨rfl, rfl, rfl⟩ := trodAll_nil r2
  obtain rfl : args = #[v0, v1, v2] := by cases args; simp_all
  rw [MakeChecks.laidMetH_plain _ _ _ (by kernel_rfl)] at hL
  obtain ⟨A, SV⟩ := sentVars (rest := [(tabName, Rows.laid_loop_example_g01338_impl_mostOfFlock)]) hL
  have T : TabAt W := by
    obtain ⟨ps, hv, _, _⟩ := hL
    obtain ⟨_, _, _, _, _, _, _, _, _, _, hv, _⟩ := hv
    obtain ⟨_, _, _, _, _, _, _, _, _, _, hv, _⟩ := hv
    obtain ⟨_, _, _, _, _, _, _, _, _, _, hv, _⟩ := hv
    obtain ⟨_, _, _, _, _, _, _, _, _, _, hv, _⟩ := hv
    obtain ⟨_, _, _, _, _, _, _, _, _, _, hv, _⟩ := hv
    obtain ⟨_, _, _, _, _, _, _, _, _, _, hv, _⟩ := hv
    obtain ⟨_, _, _, _, _, _, _, _, _, _, hv, _⟩ := hv
    obtain ⟨_, _, _, _, _, _, _, _, _, _, hv, _⟩ := hv
    exact tab_of hv
  have hlen := trodVars_len hV
  obtain ⟨gv1, gv2, gv3, gv4, gv5, gv6, gv7, gv8, gv9, rfl⟩ : ∃ gv1 gv2 gv3 gv4 gv5 gv6 gv7 gv8 gv9, gs = [gv1, gv2, gv3, gv4, gv5, gv6, gv7, gv8, gv9] := by
    match gs, hlen with
    | [gv1, gv2, gv3, gv4, gv5, gv6, gv7, gv8, gv9], _ => exact ⟨gv1, gv2, gv3, gv4, gv5, gv6, gv7, gv8, gv9, rfl⟩
  have k0 := h0
  have lt0 : ∀ x ∈ p0, x.block < W.heap.size := by obtain ⟨m, hm⟩ := k0; exact DataW.trod_lt m _ _ _ hm
  have k1 := h1
  have lt1 : ∀ x ∈ p1, x.block < W.heap.size := by obtain ⟨m, hm⟩ := k1; exact DataW.trod_lt m _ _ _ hm
  have k2 := h2
  have lt2 : ∀ x ∈ p2, x.block < W.heap.size := by obtain ⟨m, hm⟩ := k2; exact DataW.trod_lt m _ _ _ hm
  obtain ⟨f0, rfl, hf0⟩ := open_field (fs := Tryd.prog.fieldsOf 27) (by kernel_rfl) (by kernel_rfl) Tryd.underlying22 Tryd.underlying23 Tryd.underlying5 Tryd.underlying25 Tryd.underlying24 (by kernel_rfl) (by kernel_rfl) (by kernel_rfl) (by kernel_rfl) (by kernel_rfl) (by kernel_rfl) (hval 0 27 v0 rfl rfl) h0
  obtain ⟨f1, rfl, hf1⟩ := open_row (q := .i16) Tryd.underlying25 Tryd.underlying24 (by kernel_rfl) (by kernel_rfl) (hval 1 25 v1 rfl rfl) h1
  obtain ⟨a2, rfl, ha2⟩ := open_row1 (ks := ksFlock) (fs := Tryd.prog.fieldsOf 29) (by kernel_rfl) (by kernel_rfl) (by kernel_rfl) (hval 2 29 v2 rfl rfl) h2
  clear hA0 hval0 hV0
  refine (walk W f0 hf0 f1 hf1 a2 ha2 A T SV.sents).mono fun e W' ⟨he, bel⟩ => ?_
  subst he
  exact ⟨_, rfl, _, _, _, [], _, _, hW', trodAll_mk1 (shut_bool Tryd.underlying4 _), (trodAll_cons_mk (Below.trod laidOut (by kernel_rfl) (of_decide_eq_true (by kernel_rfl)) k0 bel lt0) (trodAll_cons_mk (Below.trod laidOut (by kernel_rfl) (of_decide_eq_true (by kernel_rfl)) k1 bel lt1) (trodAll_cons_mk (Below.trod laidOut (by kernel_rfl) (of_decide_eq_true (by kernel_rfl)) k2 bel lt2) trodAll_mk0))), Below.trodVars laidOut bel (by kernel_rfl) hV, bel.frame _, fun h => by cases h⟩

theorem over : Rows.fnExactEatOnceRow.holds Tryd.pinned (OpenSpec.ofChange Rows.fnExactEatOnceSpec) :=
  OpenClaim.holds_of_wide 6 Tryd.f6 rfl rfl rfl rfl rfl rfl rfl ⟨rfl, rfl, rfl, rfl, rfl⟩ rfl rfl rfl rfl rfl (by kernel_rfl) Tryd.func6 (by kernel_rfl)
    (of_decide_eq_true (by kernel_rfl)) (by unfold Func.isWrapper; first | (rw [if_pos (by decide +kernel)]; kernel_rfl) | (rw [if_neg (by decide +kernel)]; exact ⟨rfl, rfl⟩))
    (fun os started H enc _ => lifted os started H enc)
theorem proved : Rows.FnExactEatOnceCardSaid :=
  Claim7.holds_tied_plain_at .later [] [.sentinel, .sentinel, .sentinel, .sentinel, .sentinel, .sentinel, .sentinel, .sentinel, .data] true (true, "6572270ab533f3f9971be6435e3a4039d8b0b913a532b9807f6a5c2a474f441e") true
    over (fun _ h => by cases h) (by kernel_rfl) (fun _ h => by cases h) fnExactEatOnce_row_tie rfl ⟨rfl, rfl⟩ (by kernel_rfl) rfl
    (fun f fn hf hfn => by
      obtain rfl : f = 6 := Option.some.inj ((show Tryd.prog.funcNamed "loop.example/g01338/laws.FnExactEatOnce" = some 6 by kernel_rfl).symm.trans hf) |>.symm
      obtain rfl : fn = Tryd.f6 := (Option.some.inj (Tryd.func6.symm.trans hfn)).symm
      exact ⟨by kernel_rfl, fun j t ht => by
        rw [Tryd.params6] at ht
        have hm : t ∈ [27, 25, 29] := by simpa using Array.mem_of_getElem? ht
        have hall : ([27, 25, 29].all fun u => !Tryd.prog.wantsStandIn u) = true := by kernel_rfl
        exact (show Tryd.prog.wantsStandIn t = false by simpa using List.all_eq_true.1 hall t hm)⟩)
    (by kernel_rfl)
#print axioms proved
end Go.Proofs.YtaccpnpoeikaaaaDoor.lawEatOnce
