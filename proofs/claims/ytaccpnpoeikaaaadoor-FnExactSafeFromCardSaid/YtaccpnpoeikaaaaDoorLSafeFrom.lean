/-
  SafeFrom: for all arguments the program answers as the model does, and the flocks stay as they are: no condition beyond the listed variables, which the card ties to the program's text.
-/
import Derived.Test.YtaccpnpoeikaaaaDoorSafF
import Derived.Test.YtaccpnpoeikaaaaDoorFears2
import Derived.Test.YtaccpnpoeikaaaaDoorLstF
import Derived.Test.YtaccpnpoeikaaaaDoorTab
import Derived.Test.YtaccpnpoeikaaaaDoorCoreB
import Derived.Test.YtaccpnpoeikaaaaDoorLawh
import Derived.Test.YtaccpnpoeikaaaaDoorCard
import Derived.Test.YtaccpnpoeikaaaaDoorTie
import Derived.Test.YtaccpnpoeikaaaaDoorCards
import Derived.SevenTiedAt
import Derived.OpenVars
namespace Go.Proofs.YtaccpnpoeikaaaaDoor.lawSafeFrom
open Go Go.ChangeShapes Go.WideShapes Go.ChangeAt Go.RowKit

theorem sizeL16 : (Tryd.prog.info? 25).map (·.size) = some 100 := by kernel_rfl
set_option maxRecDepth 100000 in
set_option maxHeartbeats 16000000 in
theorem walk (w : World) (f : Fd) (hff : f.Wf) (g : Nat → Int) (hvg : ∀ i, i < 100 → (Lit.int .i16 (g i)).wf = true) (s : Option Addr) (z c : Nat) (F : Nat → Nat → Int) (hz : z ≤ 2 ^ 63 - 1) (hi : InA ksFlock w s z F) (hg9 : WfS ksFlock z F) (A : Nat → Addr) (T0 : TabAt w) (S0 : Sents w A) :
    Calls Tryd.prog 4 #[.agg (fcells f), .agg (acells .i16 100 g), .slice s z c] w fun e w' => e = .returned (.bool true) ∧ Below w.heap.size w w' := by
  have S : Hid (Sents w A) := Lib.hid S0
  have T : Hid (TabAt w) := Lib.hid T0
  have HI := Lib.hid hi
  have HG9 := Lib.hid hg9
  have hwg : Wf16 g := fun i hi => bounds_i16 (hvg i hi)
  clear S0 T0 hi hg9 hvg
  by_cases hbig : 1048576 < z
  · go_enter Tryd.func4, Tryd.ntmps4
    go_upto_region 1 with (fail)
    obtain ⟨W, hW, M⟩ := open2 w (fcells f) 27 (acells .i16 100 g) 25
    rw [hW]; clear hW
    go_wp2_with (go_at_call 13; refine (szFlockS_any z c (by omega) s _ (by omega) (by omega) (by omega) _).mono ?_; rintro e w9 ⟨rfl, rfl⟩; rw [if_pos (by omega)])
    go_ret
    exact ⟨rfl, M.below⟩
  have q : z ≤ 2 ^ 40 := by omega
  go_enter Tryd.func4, Tryd.ntmps4
  go_upto_region 1 with (fail)
  obtain ⟨W, hW, M⟩ := open2 w (fcells f) 27 (acells .i16 100 g) 25
  rw [hW]; clear hW
  go_upto_region 5 with (go_at_call 13; refine (szFlockS_any z c (by omega) s _ (by omega) (by omega) (by omega) _).mono ?_; rintro e w9 ⟨rfl, rfl⟩; rw [if_neg (by omega)])
  refine wp_region_rel_edges [(11, 9)] 11 (DL [dV (.agg (fcells f)), dV (.agg (fcells f)), dV (.agg (acells .i16 100 g)), dV (.agg (acells .i16 100 g)), dV (.slice s z c), dP (fun v _ _ w9 => ∃ b, v = .slice (some ⟨b, 0, none⟩) z z ∧ InS w9 b 0 z ksFlock F), dV (.tuple #[.agg (acells .u64 2 (sfVal f g z F)), .int .i64 (alCode f g z F)]), dV (.tuple #[.agg (acells .u64 2 (sfVal f g z F)), .int .i64 (alCode f g z F)]), dV (.agg (acells .u64 2 (sfVal f g z F))), dV (.int .i64 (alCode f g z F)), dB (#[.int .u64 0, .int .u64 0]) 32]) (C := fun w' => (Mem w w' [⟨w.heap.size, fcells f, 27⟩, ⟨w.heap.size + 1, acells .i16 100 g, 25⟩]) ∧ Below W.heap.size W w') (fun _ _ _ _ _ h => h) (by kernel_rfl) (by kernel_rfl) (by kernel_rfl) grows_memB
    (stays_DL (fun d hd => by
      simp only [List.mem_cons, List.mem_nil_iff, or_false] at hd
      rcases hd with rfl | rfl | rfl | rfl | rfl | rfl | rfl | rfl | rfl | rfl | rfl <;> first | exact stay_V | exact stay_P | exact stay_B)) ⟨M.drew, (Below.refl _ _).drew⟩ ?_
  refine rel_load 27 _ rfl (w.heap.size) (0) rfl (fcells f) _ rfl rfl (fun w' hw' => (hw'.1.at 0 rfl).whole) Tryd.underlying27 rfl (by rw [fcells_size]; exact sizeFl) (fun _ => ?_)
  simp only [Act.put, List.setIfInBounds_toArray, List.set_cons_zero, List.set_cons_succ]
  refine rel_call (.agg (fcells f)) 8 #[.agg (fcells f)] rfl rfl rfl rfl (enters_of Tryd.func8 (by kernel_rfl) rfl) (fun w' _ => toField f w') (fun _ => ?_)
  simp only [Act.put, List.setIfInBounds_toArray, List.set_cons_zero, List.set_cons_succ]
  refine rel_load 25 _ rfl (w.heap.size + 1) (0) rfl (acells .i16 100 g) _ rfl rfl (fun w' hw' => (hw'.1.at 1 rfl).whole) Tryd.underlying25 rfl (by rw [acells_size]; exact sizeL16) (fun _ => ?_)
  simp only [Act.put, List.setIfInBounds_toArray, List.set_cons_zero, List.set_cons_succ]
  refine rel_call (.agg (acells .i16 100 g)) 9 #[.agg (acells .i16 100 g)] rfl rfl rfl rfl (enters_of Tryd.func9 (by kernel_rfl) rfl) (fun w' _ => toFears g w') (fun _ => ?_)
  simp only [Act.put, List.setIfInBounds_toArray, List.set_cons_zero, List.set_cons_succ]
  refine rel_val _ rfl rfl (fun _ _ => rfl) (fun _ => ?_)
  simp only [Act.put, List.setIfInBounds_toArray, List.set_cons_zero, List.set_cons_succ]
  refine rel_callP _ 15 #[.slice s z c] rfl rfl rfl rfl (enters_of Tryd.func15 (by kernel_rfl) rfl) (fun w' hw' => (Fto_any z q F s c w' (HI.out.later hw'.1.below)).mono (fun e w2 h => by
    obtain ⟨b, rfl, I, _, _, hb⟩ := h
    exact ⟨_, rfl, hb, fun w3 hb3 => ⟨b, rfl, I.later hb3⟩⟩)) (fun v lo hi _ hv => ?_)
  obtain ⟨_, _, b2, rfl, _⟩ := hv
  simp only [Act.put, List.setIfInBounds_toArray, List.set_cons_zero, List.set_cons_succ]
  refine rel_callK 5 (.tuple #[.agg (acells .u64 2 (sfVal f g z F)), .int .i64 (alCode f g z F)]) 14 #[.agg (fcells f), .agg (acells .i16 100 g), .slice (some ⟨b2, 0, none⟩) z z] rfl rfl rfl rfl (enters_of Tryd.func14 (by kernel_rfl) rfl) rfl rfl rfl rfl (fun w' hw' hx => by
    obtain ⟨b', e, I⟩ := hx.1
    cases e
    exact specSafeFrom f hff g hwg z q F HG9.out b2 z w' I) (fun _ => ?_)
  simp only [Act.put, List.setIfInBounds_toArray, List.set_cons_zero, List.set_cons_succ]
  refine rel_val _ rfl rfl (fun _ _ => rfl) (fun _ => ?_)
  simp only [Act.put, List.setIfInBounds_toArray, List.set_cons_zero, List.set_cons_succ]
  refine rel_val _ rfl rfl (fun _ _ => rfl) (fun _ => ?_)
  simp only [Act.put, List.setIfInBounds_toArray, List.set_cons_zero, List.set_cons_succ]
  refine rel_val _ rfl rfl (fun _ _ => rfl) (fun _ => ?_)
  simp only [Act.put, List.setIfInBounds_toArray, List.set_cons_zero, List.set_cons_succ]
  refine rel_alloc (#[.int .u64 0, .int .u64 0]) 32 rfl rfl (fun _ => by rfl) (fun nspec => ?_)
  simp only [Act.put, List.setIfInBounds_toArray, List.set_cons_zero, List.set_cons_succ]
  refine rel_nil (fun W1 inv => ?_)
  have MA := inv.mem1 (i := 10) M inv.cls.1 rfl
  clear inv M
  change wpList _ _ _ (_ :: [_]) _ _
  generalize List.toArray (List.foldl addEdge _ _) = ops9
  refine wpList_store_row rfl 32 _ _ rfl nspec (acells .u64 2 (sfVal f g z F)) rfl rfl 32 _ (MA.at 2 rfl) (by rw [acells_size]; exact sizeC) (by rw [acells_size]; rfl) (acells_one _ _ _) ?_
  have MB0 := MA.row 2 rfl (acells .u64 2 (sfVal f g z F))
  clear MA
  generalize World.setRow _ _ _ = V1 at MB0 ⊢
  have M1 : Mem w V1 [⟨w.heap.size, fcells f, 27⟩, ⟨w.heap.size + 1, acells .i16 100 g, 25⟩, ⟨nspec, acells .u64 2 (sfVal f g z F), 32⟩] := MB0
  clear MB0
  go_upto_region 7 with (go_at_call 15; refine (Fto_any z q F s c _ (HI.out.later M1.below)).mono ?_; rintro e W5 ⟨b5, rfl, I5, _, _, hb⟩; have M5 := M1.call hb; clear M1 hb; have J5 := Lib.hid I5; clear I5)
  refine wp_region_rel_edges [(10, 8)] 10 (DL [dV (.agg (fcells f)), dV (.agg (fcells f)), dV (.agg (acells .i16 100 g)), dV (.agg (acells .i16 100 g)), dV (.slice (some ⟨b5, 0, none⟩) z z), dV (.tuple #[.agg (acells .u64 2 (sfVal f g z F)), .int .i64 (alCode f g z F)]), dV (.tuple #[.agg (acells .u64 2 (sfVal f g z F)), .int .i64 (alCode f g z F)]), dV (.agg (acells .u64 2 (sfVal f g z F))), dV (.int .i64 (alCode f g z F)), dB (#[.int .u64 0, .int .u64 0]) 32]) (C := fun w' => (Mem w w' [⟨w.heap.size, fcells f, 27⟩, ⟨w.heap.size + 1, acells .i16 100 g, 25⟩, ⟨nspec, acells .u64 2 (sfVal f g z F), 32⟩]) ∧ Below W5.heap.size W5 w') (fun _ _ _ _ _ h => h) (by kernel_rfl) (by kernel_rfl) (by kernel_rfl) grows_memB
    (stays_DL (fun d hd => by
      simp only [List.mem_cons, List.mem_nil_iff, or_false] at hd
      rcases hd with rfl | rfl | rfl | rfl | rfl | rfl | rfl | rfl | rfl | rfl <;> first | exact stay_V | exact stay_B)) ⟨M5.drew, (Below.refl _ _).drew⟩ ?_
  refine rel_load 27 _ rfl (w.heap.size) (0) rfl (fcells f) _ rfl rfl (fun w' hw' => (hw'.1.at 0 rfl).whole) Tryd.underlying27 rfl (by rw [fcells_size]; exact sizeFl) (fun _ => ?_)
  simp only [Act.put, List.setIfInBounds_toArray, List.set_cons_zero, List.set_cons_succ]
  refine rel_call (.agg (fcells f)) 8 #[.agg (fcells f)] rfl rfl rfl rfl (enters_of Tryd.func8 (by kernel_rfl) rfl) (fun w' _ => toField f w') (fun _ => ?_)
  simp only [Act.put, List.setIfInBounds_toArray, List.set_cons_zero, List.set_cons_succ]
  refine rel_load 25 _ rfl (w.heap.size + 1) (0) rfl (acells .i16 100 g) _ rfl rfl (fun w' hw' => (hw'.1.at 1 rfl).whole) Tryd.underlying25 rfl (by rw [acells_size]; exact sizeL16) (fun _ => ?_)
  simp only [Act.put, List.setIfInBounds_toArray, List.set_cons_zero, List.set_cons_succ]
  refine rel_call (.agg (acells .i16 100 g)) 9 #[.agg (acells .i16 100 g)] rfl rfl rfl rfl (enters_of Tryd.func9 (by kernel_rfl) rfl) (fun w' _ => toFears g w') (fun _ => ?_)
  simp only [Act.put, List.setIfInBounds_toArray, List.set_cons_zero, List.set_cons_succ]
  refine rel_val _ rfl rfl (fun _ _ => rfl) (fun _ => ?_)
  simp only [Act.put, List.setIfInBounds_toArray, List.set_cons_zero, List.set_cons_succ]
  refine rel_call (.tuple #[.agg (acells .u64 2 (sfVal f g z F)), .int .i64 (alCode f g z F)]) 16 #[.agg (fcells f), .agg (acells .i16 100 g), .slice (some ⟨b5, 0, none⟩) z z] rfl rfl rfl rfl (enters_of Tryd.func16 (by kernel_rfl) rfl) (fun w' hw' => implSafeFrom f hff g hwg z q F HG9.out b5 z A w' (T.out.later hw'.1.below) (S.out.later hw'.1.below) (J5.out.later hw'.2)) (fun _ => ?_)
  simp only [Act.put, List.setIfInBounds_toArray, List.set_cons_zero, List.set_cons_succ]
  refine rel_val _ rfl rfl (fun _ _ => rfl) (fun _ => ?_)
  simp only [Act.put, List.setIfInBounds_toArray, List.set_cons_zero, List.set_cons_succ]
  refine rel_val _ rfl rfl (fun _ _ => rfl) (fun _ => ?_)
  simp only [Act.put, List.setIfInBounds_toArray, List.set_cons_zero, List.set_cons_succ]
  refine rel_val _ rfl rfl (fun _ _ => rfl) (fun _ => ?_)
  simp only [Act.put, List.setIfInBounds_toArray, List.set_cons_zero, List.set_cons_succ]
  refine rel_alloc (#[.int .u64 0, .int .u64 0]) 32 rfl rfl (fun _ => by rfl) (fun nimpl => ?_)
  simp only [Act.put, List.setIfInBounds_toArray, List.set_cons_zero, List.set_cons_succ]
  refine rel_nil (fun W6 inv => ?_)
  have MA := inv.mem1 (i := 9) M5 inv.cls.1 rfl
  have hge : W5.heap.size ≤ nimpl := (inv.fact 9 _ rfl).1
  have B6 := inv.cls.2
  clear inv M5
  change wpList _ _ _ (_ :: [_]) _ _
  generalize List.toArray (List.foldl addEdge _ _) = ops9
  refine wpList_store_row rfl 32 _ _ rfl nimpl (acells .u64 2 (sfVal f g z F)) rfl rfl 32 _ (MA.at 3 rfl) (by rw [acells_size]; exact sizeC) (by rw [acells_size]; rfl) (acells_one _ _ _) ?_
  have MB0 := MA.row 3 rfl (acells .u64 2 (sfVal f g z F))
  have J6 := Lib.hid (J5.out.later (below_row B6 hge (acells .u64 2 (sfVal f g z F))))
  clear MA J5 B6
  generalize World.setRow _ _ _ = V2 at MB0 J6 ⊢
  have M6 : Mem w V2 [⟨w.heap.size, fcells f, 27⟩, ⟨w.heap.size + 1, acells .i16 100 g, 25⟩, ⟨nspec, acells .u64 2 (sfVal f g z F), 32⟩, ⟨nimpl, acells .u64 2 (sfVal f g z F), 32⟩] := MB0
  clear MB0
  have ok1 : True := trivial
  have ok2 : True := trivial
  go_upto_region 10 with (first
    | (clear ok1; refine wpList_load_part rfl 32 _ rfl nimpl 0 rfl (acells .u64 2 (sfVal f g z F)) _ (M6.at 3 rfl).whole Tryd.underlying32 rfl (by rw [acells_size]; exact sizeC) ?_)
    | (clear ok2; refine wpList_load_part rfl 32 _ rfl nspec 0 rfl (acells .u64 2 (sfVal f g z F)) _ (M6.at 2 rfl).whole Tryd.underlying32 rfl (by rw [acells_size]; exact sizeC) ?_)
    | (go_at_call 12; refine (eqCells (sfVal f g z F) _).mono ?_; rintro e W9 ⟨rfl, hb⟩; have M9 := M6.call hb; have J9 := Lib.hid (J6.out.later hb); clear M6 hb J6; go_wp2_with fail))
  go_wp2_with (first
    | (go_at_call 15; refine (Fto_any z q F s c _ (HI.out.later M9.below)).mono ?_; rintro e W10 ⟨b10, rfl, I10, _, _, hb⟩; have M10 := M9.call hb; have J10 := Lib.hid (J9.out.later hb); clear M9 hb J9)
    | (go_at_call 17; refine (Feq_some z q F _ _ _ _ _ _ _ J10.out I10).mono ?_; rintro e W11 ⟨rfl, hb⟩; have M11 := M10.call hb))
  go_ret
  exact ⟨rfl, M11.below⟩
theorem trodVars_len {H : Type} {enc : TypeId × Value → H} {P : Program} {w : World} {sp : Nat → Bool} : ∀ {ns : List String} {gs : List (DataW H)} {ps : List MemPlace}, DataW.TrodVars enc P w sp ns gs ps → gs.length = ns.length
  | [], [], _, _ => rfl
  | [], _ :: _, _, h => h.elim
  | _ :: _, [], _, h => h.elim
  | _ :: _, _ :: _, _, ⟨_, _, _, _, _, _, _, _, _, _, h, _⟩ => congrArg (· + 1) (trodVars_len h)
theorem door_met (os : Os) (args : Array Value) : laidMetH Tryd.prog Rows.fnExactSafeFromRow.laid ((World.doorLaid Tryd.prog 400 os).forCall (fun _ _ => 0) ⟨#[], args, []⟩).memory :=
  laidMetH_of_parts3 (fuel := 8) (laidMet_of_run' 8 (by kernel_rfl) (by kernel_rfl)) (by kernel_rfl) (by kernel_rfl)
set_option maxRecDepth 100000 in
theorem lifted (os : Os) (started : os.Started) (H : Type) (enc : TypeId × Value → H) :
    ReturnsInHanded {} Tryd.checked os 4 .any (fun w args => (Rows.fnExactSafeFromSpec.pre enc Tryd.prog Tryd.f4 Rows.fnExactSafeFromRow.domain false w args ∧ laidMetH Tryd.prog Rows.fnExactSafeFromRow.laid w) ∧ sizedMet enc Tryd.prog Tryd.f4 (OpenSpec.ofChange Rows.fnExactSafeFromSpec) false w args) (Rows.fnExactSafeFromSpec.post enc Tryd.prog Tryd.f4 false true false false) := by
  refine returnsInHanded_of_change_and (C := Tryd.checked) (X := fun w _ => laidMetH Tryd.prog Rows.fnExactSafeFromRow.laid w) (fun _ _ _ hh h => h.of_heap hh) own started (by kernel_rfl) Tryd.func4
    (ChangeSpec.witness_shaped (enc := enc) (C := Tryd.checked) (os := os) (X := fun w _ => laidMetH Tryd.prog Rows.fnExactSafeFromRow.laid w) false (World.doorLaid Tryd.prog 400 os) #[.agg (fcells Fd.zero), .agg (acells .i16 100 (fun _ => 0)), .slice none 0 0] 8 rfl (World.shaped_of_RefB (by kernel_rfl) (by kernel_rfl)) (by kernel_rfl) (by kernel_rfl) (by kernel_rfl) (door_met os _)) ?_
  intro W base args ds gs before hval0 hW _ _ hL _
  have hval : ∀ (j : Nat) t v, Tryd.f4.params[j]? = some t → args[j]? = some v → Value.okWide Tryd.prog W .any base t v := hval0
  have hW' := hW
  obtain ⟨p, q, hA0, hV0, rfl, hfz, hnd⟩ := hW
  have hA : DataW.TrodAll enc Tryd.prog W 0 (fun _ => true) true Tryd.f4.params.toList args.toList ds p := hA0
  have hV : DataW.TrodVars enc Tryd.prog W (fun _ => true) Rows.fnExactSafeFromSpec.vars gs q := hV0
  rw [Tryd.params4] at hA hval
  obtain ⟨v0, vs0, d0, ds0, p0, q0, hargs, rfl, rfl, h0, r0⟩ := trodAll_cons hA
  obtain ⟨v1, vs1, d1, ds1, p1, q1, rfl, rfl, rfl, h1, r1⟩ := trodAll_cons r0
  obtain ⟨v2, vs2, d2, ds2, p2, q2, rfl, rfl, rfl, h2, r2⟩ := trodAll_cons r1
  obtain ⟨rfl, rfl, rfl⟩ := trodAll_nil r2
  obtain rfl : args = #[v0, v1, v2] := by cases args; simp_all
  rw [MakeChecks.laidMetH_plain _ _ _ (by kernel_rfl)] at hL
  obtain ⟨A, SV⟩ := sentVars (rest := [(tabName, Rows.laid_loop_example_g01338_impl_mostOfFlock)]) hL
  have T : TabAt W := by
    obtain ⟨ps, hv, _, _⟩ := hL
    obtain ⟨_, _, _, _, _, _, _, _, _, _, hv, _⟩ := hv
    obtain ⟨_, _, _, _, _, _, _, _, _, _, hv, _⟩ := hv
    obtain ⟨_, _, _, _, _, _, _, _, _, _, hv, _⟩ := hv
    obtain ⟨_, _, _, _, _, _, _, _, _, _, hv, _⟩ := hv
    obtain ⟨_, _, _, _, _, _, _, _, _, _, hv, _⟩ := hv
    obtain ⟨_, _, _, _, _, _, _, _, _, _, hv, _⟩ := hv
    obtain ⟨_, _, _, _, _, _, _, _, _, _, hv, _⟩ := hv
    obtain ⟨_, _, _, _, _, _, _, _, _, _, hv, _⟩ := hv
    exact tab_of hv
  have hlen := trodVars_len hV
  obtain ⟨gv1, gv2, gv3, gv4, gv5, gv6, gv7, gv8, gv9, rfl⟩ : ∃ gv1 gv2 gv3 gv4 gv5 gv6 gv7 gv8 gv9, gs = [gv1, gv2, gv3, gv4, gv5, gv6, gv7, gv8, gv9] := by
    match gs, hlen with
    | [gv1, gv2, gv3, gv4, gv5, gv6, gv7, gv8, gv9], _ => exact ⟨gv1, gv2, gv3, gv4, gv5, gv6, gv7, gv8, gv9, rfl⟩
  have k0 := h0
  have lt0 : ∀ x ∈ p0, x.block < W.heap.size := by obtain ⟨m, hm⟩ := k0; exact DataW.trod_lt m _ _ _ hm
  have k1 := h1
  have lt1 : ∀ x ∈ p1, x.block < W.heap.size := by obtain ⟨m, hm⟩ := k1; exact DataW.trod_lt m _ _ _ hm
  have k2 := h2
  have lt2 : ∀ x ∈ p2, x.block < W.heap.size := by obtain ⟨m, hm⟩ := k2; exact DataW.trod_lt m _ _ _ hm
  obtain ⟨f0, rfl, hf0⟩ := open_field (fs := Tryd.prog.fieldsOf 27) (by kernel_rfl) (by kernel_rfl) Tryd.underlying22 Tryd.underlying23 Tryd.underlying5 Tryd.underlying25 Tryd.underlying24 (by kernel_rfl) (by kernel_rfl) (by kernel_rfl) (by kernel_rfl) (by kernel_rfl) (by kernel_rfl) (hval 0 27 v0 rfl rfl) h0
  obtain ⟨f1, rfl, hf1⟩ := open_row (q := .i16) Tryd.underlying25 Tryd.underlying24 (by kernel_rfl) (by kernel_rfl) (hval 1 25 v1 rfl rfl) h1
  obtain ⟨s2, z2, c2, G2, rfl, hz2, hi2, hg2⟩ := open_ints (ks := ksFlock) (fs := Tryd.prog.fieldsOf 29) Tryd.underlying43 (by kernel_rfl) (by decide) (by kernel_rfl) (by kernel_rfl) (hval 2 43 v2 rfl rfl) h2
  clear hA0 hval0 hV0
  refine (walk W f0 hf0 f1 hf1 s2 z2 c2 G2 (by simpa [maxLen] using hz2) hi2 hg2 A T SV.sents).mono fun e W' ⟨he, bel⟩ => ?_
  subst he
  exact ⟨_, rfl, _, _, _, [], _, _, hW', trodAll_mk1 (shut_bool Tryd.underlying4 _), (trodAll_cons_mk (Below.trod laidOut (by kernel_rfl) (of_decide_eq_true (by kernel_rfl)) k0 bel lt0) (trodAll_cons_mk (Below.trod laidOut (by kernel_rfl) (of_decide_eq_true (by kernel_rfl)) k1 bel lt1) (trodAll_cons_mk (Below.trod laidOut (by kernel_rfl) (of_decide_eq_true (by kernel_rfl)) k2 bel lt2) trodAll_mk0))), Below.trodVars laidOut bel (by kernel_rfl) hV, bel.frame _, fun h => by cases h⟩

theorem over : Rows.fnExactSafeFromRow.holds Tryd.pinned (OpenSpec.ofChange Rows.fnExactSafeFromSpec) :=
  OpenClaim.holds_of_wide 4 Tryd.f4 rfl rfl rfl rfl rfl rfl rfl ⟨rfl, rfl, rfl, rfl, rfl⟩ rfl rfl rfl rfl rfl (by kernel_rfl) Tryd.func4 (by kernel_rfl)
    (of_decide_eq_true (by kernel_rfl)) (by unfold Func.isWrapper; first | (rw [if_pos (by decide +kernel)]; kernel_rfl) | (rw [if_neg (by decide +kernel)]; exact ⟨rfl, rfl⟩))
    (fun os started H enc _ => lifted os started H enc)
theorem proved : Rows.FnExactSafeFromCardSaid :=
  Claim7.holds_tied_plain_at .later [] [.sentinel, .sentinel, .sentinel, .sentinel, .sentinel, .sentinel, .sentinel, .sentinel, .data] true (true, "6572270ab533f3f9971be6435e3a4039d8b0b913a532b9807f6a5c2a474f441e") true
    over (fun _ h => by cases h) (by kernel_rfl) (fun _ h => by cases h) fnExactSafeFrom_row_tie rfl ⟨rfl, rfl⟩ (by kernel_rfl) rfl
    (fun f fn hf hfn => by
      obtain rfl : f = 4 := Option.some.inj ((show Tryd.prog.funcNamed "loop.example/g01338/laws.FnExactSafeFrom" = some 4 by kernel_rfl).symm.trans hf) |>.symm
      obtain rfl : fn = Tryd.f4 := (Option.some.inj (Tryd.func4.symm.trans hfn)).symm
      exact ⟨by kernel_rfl, fun j t ht => by
        rw [Tryd.params4] at ht
        have hm : t ∈ [27, 25, 43] := by simpa using Array.mem_of_getElem? ht
        have hall : ([27, 25, 43].all fun u => !Tryd.prog.wantsStandIn u) = true := by kernel_rfl
        exact (show Tryd.prog.wantsStandIn t = false by simpa using List.all_eq_true.1 hall t hm)⟩)
    (by kernel_rfl)
#print axioms proved
end Go.Proofs.YtaccpnpoeikaaaaDoor.lawSafeFrom
