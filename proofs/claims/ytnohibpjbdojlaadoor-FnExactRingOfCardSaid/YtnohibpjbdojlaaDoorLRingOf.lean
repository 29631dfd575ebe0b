/-
  RingOf: for every field (valid or not) and all numbers the program answers as the model does: no condition beyond the listed sentinels, which the card ties to the program's text.
-/
import Derived.Test.YtnohibpjbdojlaaDoorRing
import Derived.Test.YtnohibpjbdojlaaDoorLawh
import Derived.Test.YtnohibpjbdojlaaDoorOpen
import Derived.Test.YtnohibpjbdojlaaDoorCard
import Derived.Test.YtnohibpjbdojlaaDoorTie
import Derived.Test.YtnohibpjbdojlaaDoorCards
import Derived.SevenTiedAt
import Derived.OpenVars
namespace Go.Proofs.YtnohibpjbdojlaaDoor.lawRingOf
open Go Go.ChangeShapes Go.WideShapes Go.ChangeAt Go.RowKit

set_option maxRecDepth 100000 in
set_option maxHeartbeats 2000000 in
theorem walk (w : World) (f : Fd) (hf : f.Wf) (c : Int) (hc : (Lit.int .i64 c).wf = true) (v : Int) (hv : (Lit.int .i64 v).wf = true) (A : Nat → Addr) (S0 : Sents w A) : Calls Tryd.prog 3 #[.agg (fcells f), .int .i64 c, .int .i64 v] w fun e w' => e = .returned (.bool true) ∧ Below w.heap.size w w' := by
  have S : Hid (Sents w A) := Lib.hid S0
  clear S0
  obtain ⟨hv1, hv2⟩ := bounds_i64 hv
  obtain ⟨hc1, hc2⟩ := bounds_i64 hc
  clear hv hc
  go_enter Tryd.func3, Tryd.ntmps3
  go_upto_region 1 with (fail)
  obtain ⟨W, hW, M⟩ := open1 w (fcells f) 27
  rw [hW]; clear hW
  go_upto_region 2 with (first
    | (refine wpList_load_part rfl 27 _ rfl w.heap.size 0 rfl (fcells f) _ (M.at 0 rfl).whole Tryd.underlying27 rfl (by rw [fcells_size]; exact sizeFl) ?_)
    | (go_at_call 8; refine (toField _ _).mono ?_; rintro e W1 ⟨rfl, hb⟩; have M1 := M.call hb; clear M hb)
    | (go_at_call 7; refine (specRingOf f hf c v hv1 hv2 _).mono ?_; rintro e W2 ⟨rfl, hb⟩; have M2 := M1.call hb; clear M1 hb)
    | (refine wpList_store_row rfl 30 _ _ rfl W2.heap.size (acells .u64 2 (ringOf f c v)) rfl rfl 30 _ ((M2.alloc #[.int .u64 0, .int .u64 0] 30).at 1 rfl) (by rw [acells_size]; exact sizeC) (by rw [acells_size]; rfl) (acells_one _ _ _) ?_))
  have M3 := (M2.alloc #[.int .u64 0, .int .u64 0] 30).row 1 rfl (acells .u64 2 (ringOf f c v))
  generalize World.setRow _ _ _ = W3 at M3 ⊢
  go_upto_region 3 with (first
    | (refine wpList_load_part rfl 27 _ rfl w.heap.size 0 rfl (fcells f) _ (M3.at 0 rfl).whole Tryd.underlying27 rfl (by rw [fcells_size]; exact sizeFl) ?_)
    | (go_at_call 8; refine (toField _ _).mono ?_; rintro e W4 ⟨rfl, hb⟩; have M4 := M3.call hb; clear M3 hb)
    | (go_at_call 9; refine (implRingOf f hf c v hc1 hc2 hv1 hv2 A _ (S.out.later M4.below)).mono ?_; rintro e W5 ⟨rfl, hb⟩; have M5 := M4.call hb; clear M4 hb)
    | (refine wpList_store_row rfl 30 _ _ rfl W5.heap.size (acells .u64 2 (ringOf f c v)) rfl rfl 30 _ ((M5.alloc #[.int .u64 0, .int .u64 0] 30).at 2 rfl) (by rw [acells_size]; exact sizeC) (by rw [acells_size]; rfl) (acells_one _ _ _) ?_))
  have M6 := (M5.alloc #[.int .u64 0, .int .u64 0] 30).row 2 rfl (acells .u64 2 (ringOf f c v))
  generalize World.setRow _ _ _ = W6 at M6 ⊢
  have ok1 : True := trivial
  have ok2 : True := trivial
  go_wp2_with (first
    | (clear ok1; refine wpList_load_part rfl 30 _ rfl W5.heap.size 0 rfl (acells .u64 2 (ringOf f c v)) _ (M6.at 2 rfl).whole Tryd.underlying30 rfl (by rw [acells_size]; exact sizeC) ?_)
    | (clear ok2; refine wpList_load_part rfl 30 _ rfl W2.heap.size 0 rfl (acells .u64 2 (ringOf f c v)) _ (M6.at 1 rfl).whole Tryd.underlying30 rfl (by rw [acells_size]; exact sizeC) ?_)
    | (go_at_call 10; refine (eqCells (ringOf f c v) _).mono ?_; rintro e W7 ⟨rfl, hb⟩; have M7 := M6.call hb; clear M6 hb))
  go_ret
  exact ⟨rfl, M7.below⟩

theorem trodVars_len {H : Type} {enc : TypeId × Value → H} {P : Program} {w : World} {sp : Nat → Bool} : ∀ {ns : List String} {gs : List (DataW H)} {ps : List MemPlace}, DataW.TrodVars enc P w sp ns gs ps → gs.length = ns.length
  | [], [], _, _ => rfl
  | [], _ :: _, _, h => h.elim
  | _ :: _, [], _, h => h.elim
  | _ :: _, _ :: _, _, ⟨_, _, _, _, _, _, _, _, _, _, h, _⟩ => congrArg (· + 1) (trodVars_len h)
theorem door_met (os : Os) (args : Array Value) : laidMetH Tryd.prog Rows.fnExactRingOfRow.laid ((World.doorLaid Tryd.prog 400 os).forCall (fun _ _ => 0) ⟨#[], args, []⟩).memory :=
  laidMetH_of_parts3 (fuel := 8) (laidMet_of_run' 8 (by kernel_rfl) (by kernel_rfl)) (by kernel_rfl) (by kernel_rfl)
set_option maxRecDepth 100000 in
theorem lifted (os : Os) (started : os.Started) (H : Type) (enc : TypeId × Value → H) :
    ReturnsInHanded {} Tryd.checked os 3 .any (fun w args => (Rows.fnExactRingOfSpec.pre enc Tryd.prog Tryd.f3 Rows.fnExactRingOfRow.domain false w args ∧ laidMetH Tryd.prog Rows.fnExactRingOfRow.laid w) ∧ sizedMet enc Tryd.prog Tryd.f3 (OpenSpec.ofChange Rows.fnExactRingOfSpec) false w args) (Rows.fnExactRingOfSpec.post enc Tryd.prog Tryd.f3 false true false false) := by
  refine returnsInHanded_of_change_and (C := Tryd.checked) (X := fun w _ => laidMetH Tryd.prog Rows.fnExactRingOfRow.laid w) (fun _ _ _ hh h => h.of_heap hh) own started (by kernel_rfl) Tryd.func3
    (ChangeSpec.witness_shaped (enc := enc) (C := Tryd.checked) (os := os) (X := fun w _ => laidMetH Tryd.prog Rows.fnExactRingOfRow.laid w) false (World.doorLaid Tryd.prog 400 os) #[.agg (fcells Fd.zero), .int .i64 0, .int .i64 0] 8 rfl (World.shaped_of_RefB (by kernel_rfl) (by kernel_rfl)) (by kernel_rfl) (by kernel_rfl) (by kernel_rfl) (door_met os _)) ?_
  intro W base args ds gs before hval0 hW _ _ hL _
  have hval : ∀ (j : Nat) t v, Tryd.f3.params[j]? = some t → args[j]? = some v → Value.okWide Tryd.prog W .any base t v := hval0
  have hW' := hW
  obtain ⟨p, q, hA0, hV0, rfl, hfz, hnd⟩ := hW
  have hA : DataW.TrodAll enc Tryd.prog W 0 (fun _ => true) true Tryd.f3.params.toList args.toList ds p := hA0
  have hV : DataW.TrodVars enc Tryd.prog W (fun _ => true) Rows.fnExactRingOfSpec.vars gs q := hV0
  rw [Tryd.params3] at hA hval
  obtain ⟨v0, vs0, d0, ds0, p0, q0, hargs, rfl, rfl, h0, r0⟩ := trodAll_cons hA
  obtain ⟨v1, vs1, d1, ds1, p1, q1, rfl, rfl, rfl, h1, r1⟩ := trodAll_cons r0
  obtain ⟨v2, vs2, d2, ds2, p2, q2, rfl, rfl, rfl, h2, r2⟩ := trodAll_cons r1
  obtain ⟨rfl, rfl, rfl⟩ := trodAll_nil r2
  obtain rfl : args = #[v0, v1, v2] := by cases args; simp_all
  rw [MakeChecks.laidMetH_plain _ _ _ (by kernel_rfl)] at hL
  obtain ⟨A, SV⟩ := sentVars (rest := []) hL
  have hlen := trodVars_len hV
  obtain ⟨gv1, gv2, gv3, gv4, gv5, gv6, gv7, gv8, rfl⟩ : ∃ gv1 gv2 gv3 gv4 gv5 gv6 gv7 gv8, gs = [gv1, gv2, gv3, gv4, gv5, gv6, gv7, gv8] := by
    match gs, hlen with
    | [gv1, gv2, gv3, gv4, gv5, gv6, gv7, gv8], _ => exact ⟨gv1, gv2, gv3, gv4, gv5, gv6, gv7, gv8, rfl⟩
  have k0 := h0
  have lt0 : ∀ x ∈ p0, x.block < W.heap.size := by obtain ⟨m, hm⟩ := k0; exact DataW.trod_lt m _ _ _ hm
  have k1 := h1
  have lt1 : ∀ x ∈ p1, x.block < W.heap.size := by obtain ⟨m, hm⟩ := k1; exact DataW.trod_lt m _ _ _ hm
  have k2 := h2
  have lt2 : ∀ x ∈ p2, x.block < W.heap.size := by obtain ⟨m, hm⟩ := k2; exact DataW.trod_lt m _ _ _ hm
  obtain ⟨f0, rfl, hf0⟩ := open_field (fs := Tryd.prog.fieldsOf 27) (by kernel_rfl) (by kernel_rfl) Tryd.underlying22 Tryd.underlying23 Tryd.underlying5 Tryd.underlying25 Tryd.underlying24 (by kernel_rfl) (by kernel_rfl) (by kernel_rfl) (by kernel_rfl) (by kernel_rfl) (by kernel_rfl) (hval 0 27 v0 rfl rfl) h0
  obtain ⟨n1, rfl, rfl, rfl, wn1⟩ := open_int Tryd.underlying2 (hval 1 2 v1 rfl rfl) h1
  obtain ⟨n2, rfl, rfl, rfl, wn2⟩ := open_int Tryd.underlying2 (hval 2 2 v2 rfl rfl) h2
  clear hA0 hval0 hV0
  refine (walk W f0 hf0 n1 wn1 n2 wn2 A SV.sents).mono fun e W' ⟨he, bel⟩ => ?_
  subst he
  exact ⟨_, rfl, _, _, _, [], _, _, hW', trodAll_mk1 (shut_bool Tryd.underlying4 _), (trodAll_cons_mk (Below.trod laidOut (by kernel_rfl) (of_decide_eq_true (by kernel_rfl)) k0 bel lt0) (trodAll_cons_mk (Below.trod laidOut (by kernel_rfl) (of_decide_eq_true (by kernel_rfl)) k1 bel lt1) (trodAll_cons_mk (Below.trod laidOut (by kernel_rfl) (of_decide_eq_true (by kernel_rfl)) k2 bel lt2) trodAll_mk0))), Below.trodVars laidOut bel (by kernel_rfl) hV, bel.frame _, fun h => by cases h⟩

theorem over : Rows.fnExactRingOfRow.holds Tryd.pinned (OpenSpec.ofChange Rows.fnExactRingOfSpec) :=
  OpenClaim.holds_of_wide 3 Tryd.f3 rfl rfl rfl rfl rfl rfl rfl ⟨rfl, rfl, rfl, rfl, rfl⟩ rfl rfl rfl rfl rfl (by kernel_rfl) Tryd.func3 (by kernel_rfl)
    (of_decide_eq_true (by kernel_rfl)) (by unfold Func.isWrapper; first | (rw [if_pos (by decide +kernel)]; kernel_rfl) | (rw [if_neg (by decide +kernel)]; exact ⟨rfl, rfl⟩))
    (fun os started H enc _ => lifted os started H enc)
theorem proved : Rows.FnExactRingOfCardSaid :=
  Claim7.holds_tied_plain_at .later [] [.sentinel, .sentinel, .sentinel, .sentinel, .sentinel, .sentinel, .sentinel, .sentinel] true (true, "5804fda7c2249e243213edeb0ebe7bc52657ee95944942ab8c5265b1948a4a9a") true
    over (fun _ h => by cases h) (by kernel_rfl) (fun _ h => by cases h) fnExactRingOf_row_tie rfl ⟨rfl, rfl⟩ (by kernel_rfl) rfl
    (fun f fn hf hfn => by
      obtain rfl : f = 3 := Option.some.inj ((show Tryd.prog.funcNamed "loop.example/g01338/laws.FnExactRingOf" = some 3 by kernel_rfl).symm.trans hf) |>.symm
      obtain rfl : fn = Tryd.f3 := (Option.some.inj (Tryd.func3.symm.trans hfn)).symm
      exact ⟨by kernel_rfl, fun j t ht => by
        rw [Tryd.params3] at ht
        have hm : t ∈ [27, 2, 2] := by simpa using Array.mem_of_getElem? ht
        have hall : ([27, 2, 2].all fun u => !Tryd.prog.wantsStandIn u) = true := by kernel_rfl
        exact (show Tryd.prog.wantsStandIn t = false by simpa using List.all_eq_true.1 hall t hm)⟩)
    (by kernel_rfl)
#print axioms proved
end Go.Proofs.YtnohibpjbdojlaaDoor.lawRingOf
