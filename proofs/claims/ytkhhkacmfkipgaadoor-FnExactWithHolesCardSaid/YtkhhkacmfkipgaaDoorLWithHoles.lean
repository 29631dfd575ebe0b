/-
  WithHoles: for every field (valid or not) and all further arguments the program answers as the model does: no condition beyond the listed sentinels, which the card ties to the program's text.
-/
import Derived.Test.YtkhhkacmfkipgaaDoorHoleM
import Derived.Test.YtkhhkacmfkipgaaDoorRegE
import Derived.Test.YtkhhkacmfkipgaaDoorNetA
import Derived.Test.YtkhhkacmfkipgaaDoorTgtM
import Derived.Test.YtkhhkacmfkipgaaDoorLawh
import Derived.Test.YtkhhkacmfkipgaaDoorOpen
import Derived.Test.YtkhhkacmfkipgaaDoorCard
import Derived.Test.YtkhhkacmfkipgaaDoorTie
import Derived.Test.YtkhhkacmfkipgaaDoorCards
import Derived.SevenTiedAt
import Derived.OpenVars
namespace Go.Proofs.YtkhhkacmfkipgaaDoor.lawWithHoles
open Go Go.ChangeShapes Go.WideShapes Go.ChangeAt Go.RowKit

theorem wfn {n : Nat} {F : Nat → Nat → Int} (h : WfS ksNet n F) {i : Nat} (hi : i < n) : WfN (F i) :=
  ⟨bounds_i8 (h i hi 0 (by decide)), bounds_i8 (h i hi 1 (by decide)), bounds_i8 (h i hi 2 (by decide)), bounds_i8 (h i hi 3 (by decide))⟩
theorem inS_row {W w : World} {b n nb : Nat} {ks : List IntKind} {F : Nat → Nat → Int} (hs : 0 < ks.length) (J : InS W b 0 n ks F) (I : InS w b 0 n ks F) (h : W.heap.size ≤ nb) (cs : Array Value) : InS (w.setRow nb cs) b 0 n ks F :=
  I.below (below_row (Below.refl nb w) (Nat.le_refl _) cs) (fun i hi => Nat.lt_of_lt_of_le (J.lt hs hi) h)
set_option maxRecDepth 100000 in
set_option maxHeartbeats 8000000 in
theorem walk (w : World) (f : Fd) (hf : f.Wf) (s : Option Addr) (z c : Nat) (F : Nat → Nat → Int) (hz : z ≤ 2 ^ 63 - 1) (hi : InA ksNet w s z F) (hg : WfS ksNet z F) (g0 : Nat → Int) (hg0 : ∀ i, i < 2 → (Lit.int .u64 (g0 i)).wf = true) (A : Nat → Addr) (S0 : Sents w A) : Calls Tryd.prog 9 #[.agg (fcells f), .slice s z c, .agg (acells .u64 2 (g0))] w fun e w' => e = .returned (.bool true) ∧ Below w.heap.size w w' := by
  have S : Hid (Sents w A) := Lib.hid S0
  clear S0
  obtain ⟨g, hgU, eg⟩ := u64_of g0 hg0
  rw [eg]
  clear eg hg0
  have hF : Hid (∀ i, i < z → WfN (F i)) := Lib.hid (fun i h => wfn hg h)
  have HI := Lib.hid hi
  clear hi hg
  go_enter Tryd.func9, Tryd.ntmps9
  go_upto_region 1 with (fail)
  obtain ⟨W, hW, M⟩ := open2 w (fcells f) 27 (acells .u64 2 (g)) 38
  rw [hW]; clear hW
  by_cases hbig : 1048576 < z
  · go_wp2_with (go_at_call 17; refine (szNetS_any z c (by omega) s _ (by omega) (by omega) (by omega) _).mono ?_; rintro e w' ⟨rfl, rfl⟩; rw [if_pos (by omega)])
    go_ret
    exact ⟨rfl, M.below⟩
  have hz2 : z ≤ 2 ^ 40 := by omega
  go_upto_region 5 with (go_at_call 17; refine (szNetS_any z c (by omega) s _ (by omega) (by omega) (by omega) _).mono ?_; rintro e w' ⟨rfl, rfl⟩; rw [if_neg (by omega)])
  refine wp_region_rel_edges [(11, 9)] 11 (DL [dV (.agg (fcells f)), dV (.agg (fcells f)), dV (.slice s z c), dP (fun v _ _ w9 => ∃ b, v = .slice (some ⟨b, 0, none⟩) z z ∧ InS w9 b 0 z ksNet F), dV (.agg (acells .u64 2 (g))), dV (.agg (acells .u64 2 (g))), dV (.tuple #[.agg (acells .u64 2 (ans (netsCode f z F) (joinC .andNot (cov F z) g))), .int .i64 (netsCode f z F)]), dV (.tuple #[.agg (acells .u64 2 (ans (netsCode f z F) (joinC .andNot (cov F z) g))), .int .i64 (netsCode f z F)]), dV (.agg (acells .u64 2 (ans (netsCode f z F) (joinC .andNot (cov F z) g)))), dV (.int .i64 (netsCode f z F)), dB (#[.int .u64 0, .int .u64 0]) 39]) (C := fun w' => Mem w w' [⟨w.heap.size, fcells f, 27⟩, ⟨w.heap.size + 1, acells .u64 2 (g), 38⟩]) (fun _ _ _ _ _ h => h) (by kernel_rfl) (by kernel_rfl) (by kernel_rfl) grows_mem
    (stays_DL (fun d hd => by
      simp only [List.mem_cons, List.mem_nil_iff, or_false] at hd
      rcases hd with rfl | rfl | rfl | rfl | rfl | rfl | rfl | rfl | rfl | rfl | rfl <;> first | exact stay_V | exact stay_P | exact stay_B)) M.drew ?_
  refine rel_load 27 _ rfl (w.heap.size) (0) rfl (fcells f) _ rfl rfl (fun w' hw' => (hw'.at 0 rfl).whole) Tryd.underlying27 rfl (by rw [fcells_size]; exact sizeFl) (fun _ => ?_)
  simp only [Act.put, List.setIfInBounds_toArray, List.set_cons_zero, List.set_cons_succ]
  refine rel_call (.agg (fcells f)) 11 #[.agg (fcells f)] rfl rfl rfl rfl (enters_of Tryd.func11 (by kernel_rfl) rfl) (fun w' _ => toField f w') (fun _ => ?_)
  simp only [Act.put, List.setIfInBounds_toArray, List.set_cons_zero, List.set_cons_succ]
  refine rel_val _ rfl rfl (fun _ _ => rfl) (fun _ => ?_)
  simp only [Act.put, List.setIfInBounds_toArray, List.set_cons_zero, List.set_cons_succ]
  refine rel_callP _ 19 #[.slice s z c] rfl rfl rfl rfl (enters_of Tryd.func19 (by kernel_rfl) rfl) (fun w' hw' => (toNetS_arg z hz2 F s c w' (HI.out.later hw'.below)).mono (fun e w2 h => by
    obtain ⟨b, rfl, I, hb⟩ := h
    exact ⟨_, rfl, hb, fun w3 hb3 => ⟨b, rfl, I.later hb3⟩⟩)) (fun v lo hi _ hv => ?_)
  obtain ⟨_, _, b2, rfl, _⟩ := hv
  simp only [Act.put, List.setIfInBounds_toArray, List.set_cons_zero, List.set_cons_succ]
  refine rel_load 38 _ rfl (w.heap.size + 1) (0) rfl (acells .u64 2 (g)) _ rfl rfl (fun w' hw' => (hw'.at 1 rfl).whole) Tryd.underlying38 rfl (by rw [acells_size]; exact sizeA) (fun _ => ?_)
  simp only [Act.put, List.setIfInBounds_toArray, List.set_cons_zero, List.set_cons_succ]
  refine rel_call (.agg (acells .u64 2 (g))) 30 #[.agg (acells .u64 2 (g))] rfl rfl rfl rfl (enters_of Tryd.func30 (by kernel_rfl) rfl) (fun w' _ => toCells g w') (fun _ => ?_)
  simp only [Act.put, List.setIfInBounds_toArray, List.set_cons_zero, List.set_cons_succ]
  refine rel_callK 3 (.tuple #[.agg (acells .u64 2 (ans (netsCode f z F) (joinC .andNot (cov F z) g))), .int .i64 (netsCode f z F)]) 29 #[.agg (fcells f), .slice (some ⟨b2, 0, none⟩) z z, .agg (acells .u64 2 (g))] rfl rfl rfl rfl (enters_of Tryd.func29 (by kernel_rfl) rfl) rfl rfl rfl rfl (fun w' hw' hx => by
    obtain ⟨b', e, I⟩ := hx.1
    cases e
    exact specWithHoles f hf z hz2 F hF.out g hgU b2 0 z w' I) (fun _ => ?_)
  simp only [Act.put, List.setIfInBounds_toArray, List.set_cons_zero, List.set_cons_succ]
  refine rel_val _ rfl rfl (fun _ _ => rfl) (fun _ => ?_)
  simp only [Act.put, List.setIfInBounds_toArray, List.set_cons_zero, List.set_cons_succ]
  refine rel_val _ rfl rfl (fun _ _ => rfl) (fun _ => ?_)
  simp only [Act.put, List.setIfInBounds_toArray, List.set_cons_zero, List.set_cons_succ]
  refine rel_val _ rfl rfl (fun _ _ => rfl) (fun _ => ?_)
  simp only [Act.put, List.setIfInBounds_toArray, List.set_cons_zero, List.set_cons_succ]
  refine rel_alloc (#[.int .u64 0, .int .u64 0]) 39 rfl rfl (fun _ => by rfl) (fun nspec => ?_)
  simp only [Act.put, List.setIfInBounds_toArray, List.set_cons_zero, List.set_cons_succ]
  refine rel_nil (fun W1 inv => ?_)
  have MA := inv.mem1 (i := 10) M inv.cls rfl
  clear inv M
  change wpList _ _ _ (_ :: [_]) _ _
  generalize List.toArray (List.foldl addEdge _ _) = ops9
  refine wpList_store_row rfl 39 _ _ rfl nspec (acells .u64 2 (ans (netsCode f z F) (joinC .andNot (cov F z) g))) rfl rfl 39 _ (MA.at 2 rfl) (by rw [acells_size]; exact sizeC) (by rw [acells_size]; rfl) (acells_one _ _ _) ?_
  have MB0 := MA.row 2 rfl (acells .u64 2 (ans (netsCode f z F) (joinC .andNot (cov F z) g)))
  clear MA
  generalize World.setRow _ _ _ = Vspec at MB0 ⊢
  have Nspec : Mem w Vspec [⟨w.heap.size, fcells f, 27⟩, ⟨w.heap.size + 1, acells .u64 2 (g), 38⟩, ⟨nspec, acells .u64 2 (ans (netsCode f z F) (joinC .andNot (cov F z) g)), 39⟩] := MB0
  clear MB0
  go_upto_region 7 with (go_at_call 19; refine (toNetS_arg z hz2 F s c _ (HI.out.later Nspec.below)).mono ?_; rintro e W5 ⟨b5, rfl, I5, hb⟩; have M5 := Nspec.call hb; clear Nspec hb; have J5 := Lib.hid I5; clear I5)
  refine wp_region_rel_edges [(10, 8)] 10 (DL [dV (.agg (fcells f)), dV (.agg (fcells f)), dV (.slice (some ⟨b5, 0, none⟩) z z), dV (.agg (acells .u64 2 (g))), dV (.agg (acells .u64 2 (g))), dV (.tuple #[.agg (acells .u64 2 (ans (netsCode f z F) (joinC .andNot (cov F z) g))), .int .i64 (netsCode f z F)]), dV (.tuple #[.agg (acells .u64 2 (ans (netsCode f z F) (joinC .andNot (cov F z) g))), .int .i64 (netsCode f z F)]), dV (.agg (acells .u64 2 (ans (netsCode f z F) (joinC .andNot (cov F z) g)))), dV (.int .i64 (netsCode f z F)), dB (#[.int .u64 0, .int .u64 0]) 39]) (C := fun w' => Mem w w' [⟨w.heap.size, fcells f, 27⟩, ⟨w.heap.size + 1, acells .u64 2 (g), 38⟩, ⟨nspec, acells .u64 2 (ans (netsCode f z F) (joinC .andNot (cov F z) g)), 39⟩] ∧ InS w' b5 0 z ksNet F) (fun _ _ _ _ _ h => h) (by kernel_rfl) (by kernel_rfl) (by kernel_rfl) (fun _ _ h hb => ⟨h.1.call hb, h.2.later hb⟩)
    (stays_DL (fun d hd => by
      simp only [List.mem_cons, List.mem_nil_iff, or_false] at hd
      rcases hd with rfl | rfl | rfl | rfl | rfl | rfl | rfl | rfl | rfl | rfl <;> first | exact stay_V | exact stay_B)) ⟨M5.drew, J5.out⟩ ?_
  refine rel_load 27 _ rfl (w.heap.size) (0) rfl (fcells f) _ rfl rfl (fun w' hw' => (hw'.1.at 0 rfl).whole) Tryd.underlying27 rfl (by rw [fcells_size]; exact sizeFl) (fun _ => ?_)
  simp only [Act.put, List.setIfInBounds_toArray, List.set_cons_zero, List.set_cons_succ]
  refine rel_call (.agg (fcells f)) 11 #[.agg (fcells f)] rfl rfl rfl rfl (enters_of Tryd.func11 (by kernel_rfl) rfl) (fun w' _ => toField f w') (fun _ => ?_)
  simp only [Act.put, List.setIfInBounds_toArray, List.set_cons_zero, List.set_cons_succ]
  refine rel_val _ rfl rfl (fun _ _ => rfl) (fun _ => ?_)
  simp only [Act.put, List.setIfInBounds_toArray, List.set_cons_zero, List.set_cons_succ]
  refine rel_load 38 _ rfl (w.heap.size + 1) (0) rfl (acells .u64 2 (g)) _ rfl rfl (fun w' hw' => (hw'.1.at 1 rfl).whole) Tryd.underlying38 rfl (by rw [acells_size]; exact sizeA) (fun _ => ?_)
  simp only [Act.put, List.setIfInBounds_toArray, List.set_cons_zero, List.set_cons_succ]
  refine rel_call (.agg (acells .u64 2 (g))) 30 #[.agg (acells .u64 2 (g))] rfl rfl rfl rfl (enters_of Tryd.func30 (by kernel_rfl) rfl) (fun w' _ => toCells g w') (fun _ => ?_)
  simp only [Act.put, List.setIfInBounds_toArray, List.set_cons_zero, List.set_cons_succ]
  refine rel_call (.tuple #[.agg (acells .u64 2 (ans (netsCode f z F) (joinC .andNot (cov F z) g))), .int .i64 (netsCode f z F)]) 31 #[.agg (fcells f), .slice (some ⟨b5, 0, none⟩) z z, .agg (acells .u64 2 (g))] rfl rfl rfl rfl (enters_of Tryd.func31 (by kernel_rfl) rfl) (fun w' hw' => implWithHoles f hf z hz2 F hF.out g hgU b5 0 z A w' hw'.2 (S.out.later hw'.1.below)) (fun _ => ?_)
  simp only [Act.put, List.setIfInBounds_toArray, List.set_cons_zero, List.set_cons_succ]
  refine rel_val _ rfl rfl (fun _ _ => rfl) (fun _ => ?_)
  simp only [Act.put, List.setIfInBounds_toArray, List.set_cons_zero, List.set_cons_succ]
  refine rel_val _ rfl rfl (fun _ _ => rfl) (fun _ => ?_)
  simp only [Act.put, List.setIfInBounds_toArray, List.set_cons_zero, List.set_cons_succ]
  refine rel_val _ rfl rfl (fun _ _ => rfl) (fun _ => ?_)
  simp only [Act.put, List.setIfInBounds_toArray, List.set_cons_zero, List.set_cons_succ]
  refine rel_alloc (#[.int .u64 0, .int .u64 0]) 39 rfl rfl (fun _ => by rfl) (fun nimpl => ?_)
  simp only [Act.put, List.setIfInBounds_toArray, List.set_cons_zero, List.set_cons_succ]
  refine rel_nil (fun W6 inv => ?_)
  have hgei := (inv.blk (i := 9) rfl).1
  have MA := inv.mem1 (i := 9) M5 inv.cls.1 rfl
  have IA := Lib.hid inv.cls.2
  clear inv
  change wpList _ _ _ (_ :: [_]) _ _
  generalize List.toArray (List.foldl addEdge _ _) = ops9
  refine wpList_store_row rfl 39 _ _ rfl nimpl (acells .u64 2 (ans (netsCode f z F) (joinC .andNot (cov F z) g))) rfl rfl 39 _ (MA.at 3 rfl) (by rw [acells_size]; exact sizeC) (by rw [acells_size]; rfl) (acells_one _ _ _) ?_
  have MB0 := MA.row 3 rfl (acells .u64 2 (ans (netsCode f z F) (joinC .andNot (cov F z) g)))
  have IB := Lib.hid (inS_row (ks := ksNet) (by decide) J5.out IA.out hgei (acells .u64 2 (ans (netsCode f z F) (joinC .andNot (cov F z) g))))
  clear MA IA hgei M5 J5
  generalize World.setRow _ _ _ = Vimpl at MB0 IB ⊢
  have Nimpl : Mem w Vimpl [⟨w.heap.size, fcells f, 27⟩, ⟨w.heap.size + 1, acells .u64 2 (g), 38⟩, ⟨nspec, acells .u64 2 (ans (netsCode f z F) (joinC .andNot (cov F z) g)), 39⟩, ⟨nimpl, acells .u64 2 (ans (netsCode f z F) (joinC .andNot (cov F z) g)), 39⟩] := MB0
  clear MB0
  have J6 := IB
  clear IB
  have ok1 : True := trivial
  have ok2 : True := trivial
  go_upto_region 10 with (first
    | (clear ok1; refine wpList_load_part rfl 39 _ rfl nimpl 0 rfl (acells .u64 2 (ans (netsCode f z F) (joinC .andNot (cov F z) g))) _ (Nimpl.at 3 rfl).whole Tryd.underlying39 rfl (by rw [acells_size]; exact sizeC) ?_)
    | (clear ok2; refine wpList_load_part rfl 39 _ rfl nspec 0 rfl (acells .u64 2 (ans (netsCode f z F) (joinC .andNot (cov F z) g))) _ (Nimpl.at 2 rfl).whole Tryd.underlying39 rfl (by rw [acells_size]; exact sizeC) ?_)
    | (go_at_call 16; refine (eqCells (ans (netsCode f z F) (joinC .andNot (cov F z) g)) _).mono ?_; rintro e W9 ⟨rfl, hb⟩; have M9 := Nimpl.call hb; have J9 := Lib.hid (J6.out.later hb); clear Nimpl hb J6; go_wp2_with fail))
  go_wp2_with (first
    | (go_at_call 19; refine (toNetS_arg z hz2 F s c _ (HI.out.later M9.below)).mono ?_; rintro e W10 ⟨b10, rfl, I10, hb⟩; have M10 := M9.call hb; have J10 := Lib.hid (J9.out.later hb); clear M9 hb J9)
    | (go_at_call 21; refine (eqNetS_same z hz2 F _ _ _ _ _ J10.out I10).mono ?_; rintro e W11 ⟨rfl, hb⟩; have M11 := M10.call hb))
  go_ret
  exact ⟨rfl, M11.below⟩
theorem trodVars_len {H : Type} {enc : TypeId × Value → H} {P : Program} {w : World} {sp : Nat → Bool} : ∀ {ns : List String} {gs : List (DataW H)} {ps : List MemPlace}, DataW.TrodVars enc P w sp ns gs ps → gs.length = ns.length
  | [], [], _, _ => rfl
  | [], _ :: _, _, h => h.elim
  | _ :: _, [], _, h => h.elim
  | _ :: _, _ :: _, _, ⟨_, _, _, _, _, _, _, _, _, _, h, _⟩ => congrArg (· + 1) (trodVars_len h)
theorem door_met (os : Os) (args : Array Value) : laidMetH Tryd.prog Rows.fnExactWithHolesRow.laid ((World.doorLaid Tryd.prog 400 os).forCall (fun _ _ => 0) ⟨#[], args, []⟩).memory :=
  laidMetH_of_parts3 (fuel := 8) (laidMet_of_run' 8 (by kernel_rfl) (by kernel_rfl)) (by kernel_rfl) (by kernel_rfl)
set_option maxRecDepth 100000 in
theorem lifted (os : Os) (started : os.Started) (H : Type) (enc : TypeId × Value → H) :
    ReturnsInHanded {} Tryd.checked os 9 .any (fun w args => (Rows.fnExactWithHolesSpec.pre enc Tryd.prog Tryd.f9 Rows.fnExactWithHolesRow.domain false w args ∧ laidMetH Tryd.prog Rows.fnExactWithHolesRow.laid w) ∧ sizedMet enc Tryd.prog Tryd.f9 (OpenSpec.ofChange Rows.fnExactWithHolesSpec) false w args) (Rows.fnExactWithHolesSpec.post enc Tryd.prog Tryd.f9 false true false false) := by
  refine returnsInHanded_of_change_and (C := Tryd.checked) (X := fun w _ => laidMetH Tryd.prog Rows.fnExactWithHolesRow.laid w) (fun _ _ _ hh h => h.of_heap hh) own started (by kernel_rfl) Tryd.func9
    (ChangeSpec.witness_shaped (enc := enc) (C := Tryd.checked) (os := os) (X := fun w _ => laidMetH Tryd.prog Rows.fnExactWithHolesRow.laid w) false (World.doorLaid Tryd.prog 400 os) #[.agg (fcells Fd.zero), .slice none 0 0, .agg (acells .u64 2 (fun _ => 0))] 8 rfl (World.shaped_of_RefB (by kernel_rfl) (by kernel_rfl)) (by kernel_rfl) (by kernel_rfl) (by kernel_rfl) (door_met os _)) ?_
  intro W base args ds gs before hval0 hW _ _ hL _
  have hval : ∀ (j : Nat) t v, Tryd.f9.params[j]? = some t → args[j]? = some v → Value.okWide Tryd.prog W .any base t v := hval0
  have hW' := hW
  obtain ⟨p, q, hA0, hV0, rfl, hfz, hnd⟩ := hW
  have hA : DataW.TrodAll enc Tryd.prog W 0 (fun _ => true) true Tryd.f9.params.toList args.toList ds p := hA0
  have hV : DataW.TrodVars enc Tryd.prog W (fun _ => true) Rows.fnExactWithHolesSpec.vars gs q := hV0
  rw [Tryd.params9] at hA hval
  obtain ⟨v0, vs0, d0, ds0, p0, q0, hargs, rfl, rfl, h0, r0⟩ := trodAll_cons hA
  obtain ⟨v1, vs1, d1, ds1, p1, q1, rfl, rfl, rfl, h1, r1⟩ := trodAll_cons r0
  obtain ⟨v2, vs2, d2, ds2, p2, q2, rfl, rfl, rfl, h2, r2⟩ := trodAll_cons r1
  obtain ⟨rfl, rfl, rfl⟩ := trodAll_nil r2
  obtain rfl : args = #[v0, v1, v2] := by cases args; simp_all
  rw [MakeChecks.laidMetH_plain _ _ _ (by kernel_rfl)] at hL
  obtain ⟨A, SV⟩ := sentVars (rest := []) hL
  have hlen := trodVars_len hV
  obtain ⟨gv1, gv2, gv3, gv4, gv5, gv6, gv7, gv8, rfl⟩ : ∃ gv1 gv2 gv3 gv4 gv5 gv6 gv7 gv8, gs = [gv1, gv2, gv3, gv4, gv5, gv6, gv7, gv8] := by
    match gs, hlen with
    | [gv1, gv2, gv3, gv4, gv5, gv6, gv7, gv8], _ => exact ⟨gv1, gv2, gv3, gv4, gv5, gv6, gv7, gv8, rfl⟩
  have k0 := h0
  have lt0 : ∀ x ∈ p0, x.block < W.heap.size := by obtain ⟨m, hm⟩ := k0; exact DataW.trod_lt m _ _ _ hm
  have k1 := h1
  have lt1 : ∀ x ∈ p1, x.block < W.heap.size := by obtain ⟨m, hm⟩ := k1; exact DataW.trod_lt m _ _ _ hm
  have k2 := h2
  have lt2 : ∀ x ∈ p2, x.block < W.heap.size := by obtain ⟨m, hm⟩ := k2; exact DataW.trod_lt m _ _ _ hm
  obtain ⟨f0, rfl, hf0⟩ := open_field (fs := Tryd.prog.fieldsOf 27) (by kernel_rfl) (by kernel_rfl) Tryd.underlying22 Tryd.underlying23 Tryd.underlying5 Tryd.underlying25 Tryd.underlying24 (by kernel_rfl) (by kernel_rfl) (by kernel_rfl) (by kernel_rfl) (by kernel_rfl) (by kernel_rfl) (hval 0 27 v0 rfl rfl) h0
  obtain ⟨s1, z1, c1, G1, rfl, hz1, hi1, hg1⟩ := open_ints (ks := ksNet) (fs := Tryd.prog.fieldsOf 29) Tryd.underlying43 (by kernel_rfl) (by decide) (by kernel_rfl) (by kernel_rfl) (hval 1 43 v1 rfl rfl) h1
  obtain ⟨f2, rfl, hf2⟩ := open_row (q := .u64) Tryd.underlying38 Tryd.underlying37 (by kernel_rfl) (by kernel_rfl) (hval 2 38 v2 rfl rfl) h2
  clear hA0 hval0 hV0
  refine (walk W f0 hf0 s1 z1 c1 G1 (by simpa [maxLen] using hz1) hi1 hg1 f2 hf2 A SV.sents).mono fun e W' ⟨he, bel⟩ => ?_
  subst he
  exact ⟨_, rfl, _, _, _, [], _, _, hW', trodAll_mk1 (shut_bool Tryd.underlying4 _), (trodAll_cons_mk (Below.trod laidOut (by kernel_rfl) (of_decide_eq_true (by kernel_rfl)) k0 bel lt0) (trodAll_cons_mk (Below.trod laidOut (by kernel_rfl) (of_decide_eq_true (by kernel_rfl)) k1 bel lt1) (trodAll_cons_mk (Below.trod laidOut (by kernel_rfl) (of_decide_eq_true (by kernel_rfl)) k2 bel lt2) trodAll_mk0))), Below.trodVars laidOut bel (by kernel_rfl) hV, bel.frame _, fun h => by cases h⟩

theorem over : Rows.fnExactWithHolesRow.holds Tryd.pinned (OpenSpec.ofChange Rows.fnExactWithHolesSpec) :=
  OpenClaim.holds_of_wide 9 Tryd.f9 rfl rfl rfl rfl rfl rfl rfl ⟨rfl, rfl, rfl, rfl, rfl⟩ rfl rfl rfl rfl rfl (by kernel_rfl) Tryd.func9 (by kernel_rfl)
    (of_decide_eq_true (by kernel_rfl)) (by unfold Func.isWrapper; first | (rw [if_pos (by decide +kernel)]; kernel_rfl) | (rw [if_neg (by decide +kernel)]; exact ⟨rfl, rfl⟩))
    (fun os started H enc _ => lifted os started H enc)
theorem proved : Rows.FnExactWithHolesCardSaid :=
  Claim7.holds_tied_plain_at .later [] [.sentinel, .sentinel, .sentinel, .sentinel, .sentinel, .sentinel, .sentinel, .sentinel] true (true, "733e08a213e7d436d2b032eb8175836d78ec5cead2292de3cdd4b32e3f3f1c79") true
    over (fun _ h => by cases h) (by kernel_rfl) (fun _ h => by cases h) fnExactWithHoles_row_tie rfl ⟨rfl, rfl⟩ (by kernel_rfl) rfl
    (fun f fn hf hfn => by
      obtain rfl : f = 9 := Option.some.inj ((show Tryd.prog.funcNamed "loop.example/g01338/laws.FnExactWithHoles" = some 9 by kernel_rfl).symm.trans hf) |>.symm
      obtain rfl : fn = Tryd.f9 := (Option.some.inj (Tryd.func9.symm.trans hfn)).symm
      exact ⟨by kernel_rfl, fun j t ht => by
        rw [Tryd.params9] at ht
        have hm : t ∈ [27, 43, 38] := by simpa using Array.mem_of_getElem? ht
        have hall : ([27, 43, 38].all fun u => !Tryd.prog.wantsStandIn u) = true := by kernel_rfl
        exact (show Tryd.prog.wantsStandIn t = false by simpa using List.all_eq_true.1 hall t hm)⟩)
    (by kernel_rfl)
#print axioms proved
end Go.Proofs.YtkhhkacmfkipgaaDoor.lawWithHoles
