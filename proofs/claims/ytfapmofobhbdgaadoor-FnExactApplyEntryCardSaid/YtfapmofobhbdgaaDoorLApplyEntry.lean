/-
  ApplyEntry: for every field (valid or not) and every entry the program answers as the model does: no condition beyond the listed sentinels, which the card ties to the program's text.
-/
import Derived.Test.YtfapmofobhbdgaaDoorEntAp
import Derived.Test.YtfapmofobhbdgaaDoorEntIn
import Derived.Test.YtfapmofobhbdgaaDoorEdge
import Derived.Test.YtfapmofobhbdgaaDoorEqF
import Derived.Test.YtfapmofobhbdgaaDoorLawh
import Derived.Test.YtfapmofobhbdgaaDoorOpen
import Derived.Test.YtfapmofobhbdgaaDoorCard
import Derived.Test.YtfapmofobhbdgaaDoorTie
import Derived.Test.YtfapmofobhbdgaaDoorCards
import Derived.SevenTiedAt
import Derived.OpenVars
namespace Go.Proofs.YtfapmofobhbdgaaDoor.lawApplyEntry
open Go Go.ChangeShapes Go.WideShapes Go.ChangeAt Go.RowKit

theorem open_row1 {H : Type} {enc : TypeId × Value → H} {P : Program} {w : World} {b0 base : Nat} {r : Reach} {spare : Nat → Bool} {held : Bool} {t : TypeId} {fs : Array Field} {ks : List IntKind} {v : Value} {d : DataW H} {pl : List MemPlace}
    (he : P.underlying t = some (.struct fs)) (hC : P.cellsOf t = ks.length) (hfi : intFields P ks fs = true) (hv : Value.okWide P w r b0 t v) (h : DataW.Trod enc P w base spare held t v d pl) :
    ∃ a : Nat → Int, v = .agg (srow ks (fun _ => a) 0) ∧ WfS ks 1 (fun _ => a) := by
  obtain ⟨hsz, hf⟩ := intFields_of hfi
  obtain ⟨cs, rfl, hs⟩ := okWide_struct he hv
  obtain ⟨fuel, hfu⟩ := h
  obtain ⟨ys, n2, _, _, _, hyl, hfl⟩ := DataW.trod_struct he hfu
  have key : ∀ j, ∃ k : Int, j < ks.length → cs[j]? = some (.int (ks.getD j .i64) k) ∧ (Lit.int (ks.getD j .i64) k).wf = true := fun j => by
    by_cases hj : j < ks.length
    · have hjf : j < fs.size := by omega
      have hfj : fs[j]? = some fs[j] := Array.getElem?_eq_getElem hjf
      obtain ⟨ho, hc1, hu⟩ := hf j _ hfj
      have h1 := hfl j _ hfj
      rw [ho, hc1, List.getElem?_eq_getElem (by omega)] at h1
      obtain ⟨k, e1, e2⟩ := part_int hu h1
      exact ⟨k, fun _ => ⟨by simpa [Value.cells] using e1, e2⟩⟩
    · exact ⟨0, fun h => absurd h hj⟩
  obtain ⟨a, ha⟩ : ∃ a : Nat → Int, ∀ j, j < ks.length → cs[j]? = some (.int (ks.getD j .i64) (a j)) ∧ (Lit.int (ks.getD j .i64) (a j)).wf = true := ⟨fun j => Classical.choose (key j), fun j => Classical.choose_spec (key j)⟩
  refine ⟨a, ?_, fun i _ j hj => (ha j hj).2⟩
  congr 1
  apply Array.ext_getElem?
  intro j
  by_cases hj : j < ks.length
  · rw [(ha j hj).1, srow_get _ _ _ _ hj]; rfl
  · rw [Array.getElem?_eq_none (by omega), Array.getElem?_eq_none (by rw [srow_size]; omega)]
set_option maxRecDepth 100000 in
set_option maxHeartbeats 8000000 in
theorem walk (w : World) (f : Fd) (hf : f.Wf) (a : Nat → Int) (ha0 : WfS ksEntry 1 (fun _ => a)) (A : Nat → Addr) (S0 : Sents w A) : Calls Tryd.prog 3 #[.agg (fcells f), vEntry a] w fun e w' => e = .returned (.bool true) ∧ Below w.heap.size w w' := by
  have S : Hid (Sents w A) := Lib.hid S0
  clear S0
  have ha : Hid (WfEn a) := Lib.hid ⟨bounds_i8 (ha0 0 (by omega) 0 (by decide)), bounds_i16 (ha0 0 (by omega) 1 (by decide)), bounds_i16 (ha0 0 (by omega) 2 (by decide))⟩
  clear ha0
  obtain ⟨hw, hh⟩ := aeOut_size f hf a
  have hz : Hid (Tryd.zeroCells30.size = 202) := Lib.hid (by rw [zeroFd, fcells_size])
  go_enter Tryd.func3, Tryd.ntmps3
  go_upto_region 1 with (fail)
  obtain ⟨W, hW, M⟩ := open2 w (fcells f) 27 (cEnt a) 29
  rw [hW]; clear hW
  refine wp_region_rel_edges [(9, 7)] 9 (DL [dV (.agg (fcells f)), dV (.agg (fcells f)), dV (.agg (cEnt a)), dV (vEntry a), dV (.tuple #[.agg (fcells (aeOut f a)), .int .i64 (aeCode f a)]), dV (.tuple #[.agg (fcells (aeOut f a)), .int .i64 (aeCode f a)]), dV (.agg (fcells (aeOut f a))), dV (.int .i64 (aeCode f a)), dB (Tryd.zeroCells30) 30]) (C := fun w' => Mem w w' [⟨w.heap.size, fcells f, 27⟩, ⟨w.heap.size + 1, cEnt a, 29⟩]) (fun _ _ _ _ _ h => h) (by kernel_rfl) (by kernel_rfl) (by kernel_rfl) grows_mem
    (stays_DL (fun d hd => by
      simp only [List.mem_cons, List.mem_nil_iff, or_false] at hd
      rcases hd with rfl | rfl | rfl | rfl | rfl | rfl | rfl | rfl | rfl <;> first | exact stay_V | exact stay_B)) M.drew ?_
  refine rel_load 27 _ rfl (w.heap.size) (0) rfl (fcells f) _ rfl rfl (fun w' hw' => (hw'.at 0 rfl).whole) Tryd.underlying27 rfl (by rw [fcells_size]; exact sizeFl) (fun _ => ?_)
  simp only [Act.put, List.setIfInBounds_toArray, List.set_cons_zero, List.set_cons_succ]
  refine rel_call (.agg (fcells f)) 8 #[.agg (fcells f)] rfl rfl rfl rfl (enters_of Tryd.func8 (by kernel_rfl) rfl) (fun w' _ => toField f w') (fun _ => ?_)
  simp only [Act.put, List.setIfInBounds_toArray, List.set_cons_zero, List.set_cons_succ]
  refine rel_load 29 _ rfl (w.heap.size + 1) (0) rfl (cEnt a) _ rfl rfl (fun w' hw' => (hw'.at 1 rfl).whole) Tryd.underlying29 rfl (by kernel_rfl) (fun _ => ?_)
  simp only [Act.put, List.setIfInBounds_toArray, List.set_cons_zero, List.set_cons_succ]
  refine rel_call (vEntry a) 9 #[vEntry a] rfl rfl rfl rfl (enters_of Tryd.func9 (by kernel_rfl) rfl) (fun w' _ => toEntry_any a w') (fun _ => ?_)
  simp only [Act.put, List.setIfInBounds_toArray, List.set_cons_zero, List.set_cons_succ]
  refine rel_call (.tuple #[.agg (fcells (aeOut f a)), .int .i64 (aeCode f a)]) 7 #[.agg (fcells f), vEntry a] rfl rfl rfl rfl (enters_of Tryd.func7 (by kernel_rfl) rfl) (fun w' hw' => specApplyEntry f hf a ha.out w') (fun _ => ?_)
  simp only [Act.put, List.setIfInBounds_toArray, List.set_cons_zero, List.set_cons_succ]
  refine rel_val _ rfl rfl (fun _ _ => rfl) (fun _ => ?_)
  simp only [Act.put, List.setIfInBounds_toArray, List.set_cons_zero, List.set_cons_succ]
  refine rel_val _ rfl rfl (fun _ _ => rfl) (fun _ => ?_)
  simp only [Act.put, List.setIfInBounds_toArray, List.set_cons_zero, List.set_cons_succ]
  refine rel_val _ rfl rfl (fun _ _ => rfl) (fun _ => ?_)
  simp only [Act.put, List.setIfInBounds_toArray, List.set_cons_zero, List.set_cons_succ]
  refine rel_alloc (Tryd.zeroCells30) 30 rfl rfl (fun _ => by rfl) (fun nspec => ?_)
  simp only [Act.put, List.setIfInBounds_toArray, List.set_cons_zero, List.set_cons_succ]
  refine rel_nil (fun W1 inv => ?_)
  have MA := inv.mem1 (i := 8) M inv.cls rfl
  clear inv M
  change wpList _ _ _ (_ :: [_]) _ _
  generalize List.toArray (List.foldl addEdge _ _) = ops9
  refine wpList_store_row rfl 30 _ _ rfl nspec (fcells (aeOut f a)) rfl rfl 30 _ (MA.at 2 rfl) (by rw [fcells_size]; exact sizeFd) (by rw [hz.out, fcells_size]) (fcells_one _) ?_
  have MB0 := MA.row 2 rfl (fcells (aeOut f a))
  clear MA
  generalize World.setRow _ _ _ = Vspec at MB0 ⊢
  have Nspec : Mem w Vspec [⟨w.heap.size, fcells f, 27⟩, ⟨w.heap.size + 1, cEnt a, 29⟩, ⟨nspec, fcells (aeOut f a), 30⟩] := MB0
  clear MB0
  go_upto_region 2 with (fail)
  refine wp_region_rel_edges [(9, 7)] 9 (DL [dV (.agg (fcells f)), dV (.agg (fcells f)), dV (.agg (cEnt a)), dV (vEntry a), dV (.tuple #[.agg (fcells (aeOut f a)), .int .i64 (aeCode f a)]), dV (.tuple #[.agg (fcells (aeOut f a)), .int .i64 (aeCode f a)]), dV (.agg (fcells (aeOut f a))), dV (.int .i64 (aeCode f a)), dB (Tryd.zeroCells30) 30]) (C := fun w' => Mem w w' [⟨w.heap.size, fcells f, 27⟩, ⟨w.heap.size + 1, cEnt a, 29⟩, ⟨nspec, fcells (aeOut f a), 30⟩]) (fun _ _ _ _ _ h => h) (by kernel_rfl) (by kernel_rfl) (by kernel_rfl) grows_mem
    (stays_DL (fun d hd => by
      simp only [List.mem_cons, List.mem_nil_iff, or_false] at hd
      rcases hd with rfl | rfl | rfl | rfl | rfl | rfl | rfl | rfl | rfl <;> first | exact stay_V | exact stay_B)) Nspec.drew ?_
  refine rel_load 27 _ rfl (w.heap.size) (0) rfl (fcells f) _ rfl rfl (fun w' hw' => (hw'.at 0 rfl).whole) Tryd.underlying27 rfl (by rw [fcells_size]; exact sizeFl) (fun _ => ?_)
  simp only [Act.put, List.setIfInBounds_toArray, List.set_cons_zero, List.set_cons_succ]
  refine rel_call (.agg (fcells f)) 8 #[.agg (fcells f)] rfl rfl rfl rfl (enters_of Tryd.func8 (by kernel_rfl) rfl) (fun w' _ => toField f w') (fun _ => ?_)
  simp only [Act.put, List.setIfInBounds_toArray, List.set_cons_zero, List.set_cons_succ]
  refine rel_load 29 _ rfl (w.heap.size + 1) (0) rfl (cEnt a) _ rfl rfl (fun w' hw' => (hw'.at 1 rfl).whole) Tryd.underlying29 rfl (by kernel_rfl) (fun _ => ?_)
  simp only [Act.put, List.setIfInBounds_toArray, List.set_cons_zero, List.set_cons_succ]
  refine rel_call (vEntry a) 9 #[vEntry a] rfl rfl rfl rfl (enters_of Tryd.func9 (by kernel_rfl) rfl) (fun w' _ => toEntry_any a w') (fun _ => ?_)
  simp only [Act.put, List.setIfInBounds_toArray, List.set_cons_zero, List.set_cons_succ]
  refine rel_call (.tuple #[.agg (fcells (aeOut f a)), .int .i64 (aeCode f a)]) 10 #[.agg (fcells f), vEntry a] rfl rfl rfl rfl (enters_of Tryd.func10 (by kernel_rfl) rfl) (fun w' hw' => implApplyEntry f hf a ha.out A w' (S.out.later hw'.below)) (fun _ => ?_)
  simp only [Act.put, List.setIfInBounds_toArray, List.set_cons_zero, List.set_cons_succ]
  refine rel_val _ rfl rfl (fun _ _ => rfl) (fun _ => ?_)
  simp only [Act.put, List.setIfInBounds_toArray, List.set_cons_zero, List.set_cons_succ]
  refine rel_val _ rfl rfl (fun _ _ => rfl) (fun _ => ?_)
  simp only [Act.put, List.setIfInBounds_toArray, List.set_cons_zero, List.set_cons_succ]
  refine rel_val _ rfl rfl (fun _ _ => rfl) (fun _ => ?_)
  simp only [Act.put, List.setIfInBounds_toArray, List.set_cons_zero, List.set_cons_succ]
  refine rel_alloc (Tryd.zeroCells30) 30 rfl rfl (fun _ => by rfl) (fun nimpl => ?_)
  simp only [Act.put, List.setIfInBounds_toArray, List.set_cons_zero, List.set_cons_succ]
  refine rel_nil (fun W6 inv => ?_)
  have MA := inv.mem1 (i := 8) Nspec inv.cls rfl
  clear inv Nspec
  change wpList _ _ _ (_ :: [_]) _ _
  generalize List.toArray (List.foldl addEdge _ _) = ops9
  refine wpList_store_row rfl 30 _ _ rfl nimpl (fcells (aeOut f a)) rfl rfl 30 _ (MA.at 3 rfl) (by rw [fcells_size]; exact sizeFd) (by rw [hz.out, fcells_size]) (fcells_one _) ?_
  have MB0 := MA.row 3 rfl (fcells (aeOut f a))
  clear MA
  generalize World.setRow _ _ _ = Vimpl at MB0 ⊢
  have Nimpl : Mem w Vimpl [⟨w.heap.size, fcells f, 27⟩, ⟨w.heap.size + 1, cEnt a, 29⟩, ⟨nspec, fcells (aeOut f a), 30⟩, ⟨nimpl, fcells (aeOut f a), 30⟩] := MB0
  clear MB0
  have ok1 : True := trivial
  have ok2 : True := trivial
  go_wp2_with (first
    | (clear ok1; refine wpList_load_part rfl 30 _ rfl nimpl 0 rfl (fcells (aeOut f a)) _ (Nimpl.at 3 rfl).whole Tryd.underlying30 rfl (by rw [fcells_size]; exact sizeFd) ?_)
    | (clear ok2; refine wpList_load_part rfl 30 _ rfl nspec 0 rfl (fcells (aeOut f a)) _ (Nimpl.at 2 rfl).whole Tryd.underlying30 rfl (by rw [fcells_size]; exact sizeFd) ?_)
    | (go_at_call 11; refine (eqField_same (aeOut f a) hw hh _).mono ?_; rintro e W7 ⟨rfl, hb⟩; have M7 := Nimpl.call hb; clear Nimpl hb))
  go_ret
  exact ⟨rfl, M7.below⟩

theorem trodVars_len {H : Type} {enc : TypeId × Value → H} {P : Program} {w : World} {sp : Nat → Bool} : ∀ {ns : List String} {gs : List (DataW H)} {ps : List MemPlace}, DataW.TrodVars enc P w sp ns gs ps → gs.length = ns.length
  | [], [], _, _ => rfl
  | [], _ :: _, _, h => h.elim
  | _ :: _, [], _, h => h.elim
  | _ :: _, _ :: _, _, ⟨_, _, _, _, _, _, _, _, _, _, h, _⟩ => congrArg (· + 1) (trodVars_len h)
theorem door_met (os : Os) (args : Array Value) : laidMetH Tryd.prog Rows.fnExactApplyEntryRow.laid ((World.doorLaid Tryd.prog 400 os).forCall (fun _ _ => 0) ⟨#[], args, []⟩).memory :=
  laidMetH_of_parts3 (fuel := 8) (laidMet_of_run' 8 (by kernel_rfl) (by kernel_rfl)) (by kernel_rfl) (by kernel_rfl)
set_option maxRecDepth 100000 in
theorem lifted (os : Os) (started : os.Started) (H : Type) (enc : TypeId × Value → H) :
    ReturnsInHanded {} Tryd.checked os 3 .any (fun w args => (Rows.fnExactApplyEntrySpec.pre enc Tryd.prog Tryd.f3 Rows.fnExactApplyEntryRow.domain false w args ∧ laidMetH Tryd.prog Rows.fnExactApplyEntryRow.laid w) ∧ sizedMet enc Tryd.prog Tryd.f3 (OpenSpec.ofChange Rows.fnExactApplyEntrySpec) false w args) (Rows.fnExactApplyEntrySpec.post enc Tryd.prog Tryd.f3 false true false false) := by
  refine returnsInHanded_of_change_and (C := Tryd.checked) (X := fun w _ => laidMetH Tryd.prog Rows.fnExactApplyEntryRow.laid w) (fun _ _ _ hh h => h.of_heap hh) own started (by kernel_rfl) Tryd.func3
    (ChangeSpec.witness_shaped (enc := enc) (C := Tryd.checked) (os := os) (X := fun w _ => laidMetH Tryd.prog Rows.fnExactApplyEntryRow.laid w) false (World.doorLaid Tryd.prog 400 os) #[.agg (fcells Fd.zero), vEntry (fun _ => 0)] 8 rfl (World.shaped_of_RefB (by kernel_rfl) (by kernel_rfl)) (by kernel_rfl) (by kernel_rfl) (by kernel_rfl) (door_met os _)) ?_
  intro W base args ds gs before hval0 hW _ _ hL _
  have hval : ∀ (j : Nat) t v, Tryd.f3.params[j]? = some t → args[j]? = some v → Value.okWide Tryd.prog W .any base t v := hval0
  have hW' := hW
  obtain ⟨p, q, hA0, hV0, rfl, hfz, hnd⟩ := hW
  have hA : DataW.TrodAll enc Tryd.prog W 0 (fun _ => true) true Tryd.f3.params.toList args.toList ds p := hA0
  have hV : DataW.TrodVars enc Tryd.prog W (fun _ => true) Rows.fnExactApplyEntrySpec.vars gs q := hV0
  rw [Tryd.params3] at hA hval
  obtain ⟨v0, vs0, d0, ds0, p0, q0, hargs, rfl, rfl, h0, r0⟩ := trodAll_cons hA
  obtain ⟨v1, vs1, d1, ds1, p1, q1, rfl, rfl, rfl, h1, r1⟩ := trodAll_cons r0
  obtain ⟨rfl, rfl, rfl⟩ := trodAll_nil r1
  obtain rfl : args = #[v0, v1] := by cases args; simp_all
  rw [MakeChecks.laidMetH_plain _ _ _ (by kernel_rfl)] at hL
  obtain ⟨A, SV⟩ := sentVars (rest := []) hL
  have hlen := trodVars_len hV
  obtain ⟨gv1, gv2, gv3, gv4, gv5, gv6, gv7, gv8, rfl⟩ : ∃ gv1 gv2 gv3 gv4 gv5 gv6 gv7 gv8, gs = [gv1, gv2, gv3, gv4, gv5, gv6, gv7, gv8] := by
    match gs, hlen with
    | [gv1, gv2, gv3, gv4, gv5, gv6, gv7, gv8], _ => exact ⟨gv1, gv2, gv3, gv4, gv5, gv6, gv7, gv8, rfl⟩
  have k0 := h0
  have lt0 : ∀ x ∈ p0, x.block < W.heap.size := by obtain ⟨m, hm⟩ := k0; exact DataW.trod_lt m _ _ _ hm
  have k1 := h1
  have lt1 : ∀ x ∈ p1, x.block < W.heap.size := by obtain ⟨m, hm⟩ := k1; exact DataW.trod_lt m _ _ _ hm
  obtain ⟨f0, rfl, hf0⟩ := open_field (fs := Tryd.prog.fieldsOf 27) (by kernel_rfl) (by kernel_rfl) Tryd.underlying22 Tryd.underlying23 Tryd.underlying5 Tryd.underlying25 Tryd.underlying24 (by kernel_rfl) (by kernel_rfl) (by kernel_rfl) (by kernel_rfl) (by kernel_rfl) (by kernel_rfl) (hval 0 27 v0 rfl rfl) h0
  obtain ⟨a1, rfl, ha1⟩ := open_row1 (ks := ksEntry) (fs := Tryd.prog.fieldsOf 29) (by kernel_rfl) (by kernel_rfl) (by kernel_rfl) (hval 1 29 v1 rfl rfl) h1
  clear hA0 hval0 hV0
  refine (walk W f0 hf0 a1 ha1 A SV.sents).mono fun e W' ⟨he, bel⟩ => ?_
  subst he
  exact ⟨_, rfl, _, _, _, [], _, _, hW', trodAll_mk1 (shut_bool Tryd.underlying4 _), (trodAll_cons_mk (Below.trod laidOut (by kernel_rfl) (of_decide_eq_true (by kernel_rfl)) k0 bel lt0) (trodAll_cons_mk (Below.trod laidOut (by kernel_rfl) (of_decide_eq_true (by kernel_rfl)) k1 bel lt1) trodAll_mk0)), Below.trodVars laidOut bel (by kernel_rfl) hV, bel.frame _, fun h => by cases h⟩

theorem over : Rows.fnExactApplyEntryRow.holds Tryd.pinned (OpenSpec.ofChange Rows.fnExactApplyEntrySpec) :=
  OpenClaim.holds_of_wide 3 Tryd.f3 rfl rfl rfl rfl rfl rfl rfl ⟨rfl, rfl, rfl, rfl, rfl⟩ rfl rfl rfl rfl rfl (by kernel_rfl) Tryd.func3 (by kernel_rfl)
    (of_decide_eq_true (by kernel_rfl)) (by unfold Func.isWrapper; first | (rw [if_pos (by decide +kernel)]; kernel_rfl) | (rw [if_neg (by decide +kernel)]; exact ⟨rfl, rfl⟩))
    (fun os started H enc _ => lifted os started H enc)
theorem proved : Rows.FnExactApplyEntryCardSaid :=
  Claim7.holds_tied_plain_at .later [] [.sentinel, .sentinel, .sentinel, .sentinel, .sentinel, .sentinel, .sentinel, .sentinel] true (true, "677d1876cea7dcee184fd9146ccc5732e8b4c349c8ad252a335023ba459d10fe") true
    over (fun _ h => by cases h) (by kernel_rfl) (fun _ h => by cases h) fnExactApplyEntry_row_tie rfl ⟨rfl, rfl⟩ (by kernel_rfl) rfl
    (fun f fn hf hfn => by
      obtain rfl : f = 3 := Option.some.inj ((show Tryd.prog.funcNamed "loop.example/g01338/laws.FnExactApplyEntry" = some 3 by kernel_rfl).symm.trans hf) |>.symm
      obtain rfl : fn = Tryd.f3 := (Option.some.inj (Tryd.func3.symm.trans hfn)).symm
      exact ⟨by kernel_rfl, fun j t ht => by
        rw [Tryd.params3] at ht
        have hm : t ∈ [27, 29] := by simpa using Array.mem_of_getElem? ht
        have hall : ([27, 29].all fun u => !Tryd.prog.wantsStandIn u) = true := by kernel_rfl
        exact (show Tryd.prog.wantsStandIn t = false by simpa using List.all_eq_true.1 hall t hm)⟩)
    (by kernel_rfl)
#print axioms proved
end Go.Proofs.YtfapmofobhbdgaaDoor.lawApplyEntry
