/-
  PlainField: for all numbers the program answers as the model does: no condition beyond the listed sentinels, which the card ties to the program's text.
-/
import Derived.Test.YtljlbdnlcibhfaaDoorPlainI
import Derived.Test.YtljlbdnlcibhfaaDoorEqF
import Derived.Test.YtljlbdnlcibhfaaDoorLawh
import Derived.Test.YtljlbdnlcibhfaaDoorOpen
import Derived.Test.YtljlbdnlcibhfaaDoorCard
import Derived.Test.YtljlbdnlcibhfaaDoorTie
import Derived.Test.YtljlbdnlcibhfaaDoorCards
import Derived.SevenTiedAt
import Derived.OpenVars
namespace Go.Proofs.YtljlbdnlcibhfaaDoor.lawPlainField
open Go Go.ChangeShapes Go.WideShapes Go.ChangeAt Go.RowKit

theorem sizes (a b s : Int) : (-128 ≤ (plainField a b s).W ∧ (plainField a b s).W ≤ 127) ∧ (-128 ≤ (plainField a b s).H ∧ (plainField a b s).H ≤ 127) := by
  unfold plainField
  split
  · rename_i h
    simp only [plainOk3, Bool.and_eq_true, inB_iff] at h
    exact ⟨⟨by show -128 ≤ a; omega, by show a ≤ 127; omega⟩, ⟨by show -128 ≤ b; omega, by show b ≤ 127; omega⟩⟩
  · exact ⟨⟨by decide, by decide⟩, ⟨by decide, by decide⟩⟩
set_option maxRecDepth 100000 in
set_option maxHeartbeats 2000000 in
theorem walk (w : World) (a : Int) (ha : (Lit.int .i64 a).wf = true) (b : Int) (hb : (Lit.int .i64 b).wf = true) (s : Int) (hs : (Lit.int .i64 s).wf = true) (A : Nat → Addr) (S0 : Sents w A) : Calls Tryd.prog 3 #[.int .i64 a, .int .i64 b, .int .i64 s] w fun e w' => e = .returned (.bool true) ∧ Below w.heap.size w w' := by
  have S : Hid (Sents w A) := Lib.hid S0
  clear S0
  obtain ⟨ha1, ha2⟩ := bounds_i64 ha
  obtain ⟨hb1, hb2⟩ := bounds_i64 hb
  obtain ⟨hs1, hs2⟩ := bounds_i64 hs
  obtain ⟨hw, hh⟩ := sizes a b s
  clear ha hb hs
  have hz : Hid (Tryd.zeroCells27.size = 202) := Lib.hid (by rw [zeroFd, fcells_size])
  have M := Mem.nil w
  go_enter Tryd.func3, Tryd.ntmps3
  go_upto_region 2 with (first
    | (go_at_call 9; refine (specPlainField a b s ha1 ha2 hb1 hb2 hs1 hs2 _).mono ?_; rintro e W2 ⟨rfl, hb⟩; have M2 := M.call hb; clear M hb)
    | (refine wpList_store_row rfl 27 _ _ rfl W2.heap.size (fcells (plainField a b s)) rfl rfl 27 _ ((M2.alloc Tryd.zeroCells27 27).at 0 rfl) (by rw [fcells_size]; exact sizeFd) (by rw [hz.out, fcells_size]) (fcells_one _) ?_))
  have M3 := (M2.alloc Tryd.zeroCells27 27).row 0 rfl (fcells (plainField a b s))
  generalize World.setRow _ _ _ = W3 at M3 ⊢
  go_upto_region 3 with (first
    | (go_at_call 10; refine (implPlainField a b s ha1 ha2 hb1 hb2 hs1 hs2 A _ (S.out.later M3.below)).mono ?_; rintro e W5 ⟨rfl, hb⟩; have M5 := M3.call hb; clear M3 hb)
    | (refine wpList_store_row rfl 27 _ _ rfl W5.heap.size (fcells (plainField a b s)) rfl rfl 27 _ ((M5.alloc Tryd.zeroCells27 27).at 1 rfl) (by rw [fcells_size]; exact sizeFd) (by rw [hz.out, fcells_size]) (fcells_one _) ?_))
  have M6 := (M5.alloc Tryd.zeroCells27 27).row 1 rfl (fcells (plainField a b s))
  generalize World.setRow _ _ _ = W6 at M6 ⊢
  have ok1 : True := trivial
  have ok2 : True := trivial
  go_wp2_with (first
    | (clear ok1; refine wpList_load_part rfl 27 _ rfl W5.heap.size 0 rfl (fcells (plainField a b s)) _ (M6.at 1 rfl).whole Tryd.underlying27 rfl (by rw [fcells_size]; exact sizeFd) ?_)
    | (clear ok2; refine wpList_load_part rfl 27 _ rfl W2.heap.size 0 rfl (fcells (plainField a b s)) _ (M6.at 0 rfl).whole Tryd.underlying27 rfl (by rw [fcells_size]; exact sizeFd) ?_)
    | (go_at_call 11; refine (eqField_same (plainField a b s) hw hh _).mono ?_; rintro e W7 ⟨rfl, hb⟩; have M7 := M6.call hb; clear M6 hb))
  go_ret
  exact ⟨rfl, M7.below⟩

theorem trodVars_len {H : Type} {enc : TypeId × Value → H} {P : Program} {w : World} {sp : Nat → Bool} : ∀ {ns : List String} {gs : List (DataW H)} {ps : List MemPlace}, DataW.TrodVars enc P w sp ns gs ps → gs.length = ns.length
  | [], [], _, _ => rfl
  | [], _ :: _, _, h => h.elim
  | _ :: _, [], _, h => h.elim
  | _ :: _, _ :: _, _, ⟨_, _, _, _, _, _, _, _, _, _, h, _⟩ => congrArg (· + 1) (trodVars_len h)
theorem door_met (os : Os) (args : Array Value) : laidMetH Tryd.prog Rows.fnExactPlainFieldRow.laid ((World.doorLaid Tryd.prog 400 os).forCall (fun _ _ => 0) ⟨#[], args, []⟩).memory :=
  laidMetH_of_parts3 (fuel := 8) (laidMet_of_run' 8 (by kernel_rfl) (by kernel_rfl)) (by kernel_rfl) (by kernel_rfl)
set_option maxRecDepth 100000 in
theorem lifted (os : Os) (started : os.Started) (H : Type) (enc : TypeId × Value → H) :
    ReturnsInHanded {} Tryd.checked os 3 .any (fun w args => (Rows.fnExactPlainFieldSpec.pre enc Tryd.prog Tryd.f3 Rows.fnExactPlainFieldRow.domain false w args ∧ laidMetH Tryd.prog Rows.fnExactPlainFieldRow.laid w) ∧ sizedMet enc Tryd.prog Tryd.f3 (OpenSpec.ofChange Rows.fnExactPlainFieldSpec) false w args) (Rows.fnExactPlainFieldSpec.post enc Tryd.prog Tryd.f3 false true false false) := by
  refine returnsInHanded_of_change_and (C := Tryd.checked) (X := fun w _ => laidMetH Tryd.prog Rows.fnExactPlainFieldRow.laid w) (fun _ _ _ hh h => h.of_heap hh) own started (by kernel_rfl) Tryd.func3
    (ChangeSpec.witness_shaped (enc := enc) (C := Tryd.checked) (os := os) (X := fun w _ => laidMetH Tryd.prog Rows.fnExactPlainFieldRow.laid w) false (World.doorLaid Tryd.prog 400 os) #[.int .i64 0, .int .i64 0, .int .i64 0] 8 rfl (World.shaped_of_RefB (by kernel_rfl) (by kernel_rfl)) (by kernel_rfl) (by kernel_rfl) (by kernel_rfl) (door_met os _)) ?_
  intro W base args ds gs before hval0 hW _ _ hL _
  have hval : ∀ (j : Nat) t v, Tryd.f3.params[j]? = some t → args[j]? = some v → Value.okWide Tryd.prog W .any base t v := hval0
  have hW' := hW
  obtain ⟨p, q, hA0, hV0, rfl, hfz, hnd⟩ := hW
  have hA : DataW.TrodAll enc Tryd.prog W 0 (fun _ => true) true Tryd.f3.params.toList args.toList ds p := hA0
  have hV : DataW.TrodVars enc Tryd.prog W (fun _ => true) Rows.fnExactPlainFieldSpec.vars gs q := hV0
  rw [Tryd.params3] at hA hval
  obtain ⟨v0, vs0, d0, ds0, p0, q0, hargs, rfl, rfl, h0, r0⟩ := trodAll_cons hA
  obtain ⟨v1, vs1, d1, ds1, p1, q1, rfl, rfl, rfl, h1, r1⟩ := trodAll_cons r0
  obtain ⟨v2, vs2, d2, ds2, p2, q2, rfl, rfl, rfl, h2, r2⟩ := trodAll_cons r1
  obtain ⟨rfl, rfl, rfl⟩ := trodAll_nil r2
  obtain rfl : args = #[v0, v1, v2] := by cases args; simp_all
  rw [MakeChecks.laidMetH_plain _ _ _ (by kernel_rfl)] at hL
  obtain ⟨A, SV⟩ := sentVars (rest := []) hL
  have hlen := trodVars_len hV
  obtain ⟨g1, g2, g3, g4, g5, g6, g7, g8, rfl⟩ : ∃ g1 g2 g3 g4 g5 g6 g7 g8, gs = [g1, g2, g3, g4, g5, g6, g7, g8] := by
    match gs, hlen with
    | [g1, g2, g3, g4, g5, g6, g7, g8], _ => exact ⟨g1, g2, g3, g4, g5, g6, g7, g8, rfl⟩
  have k0 := h0
  have lt0 : ∀ x ∈ p0, x.block < W.heap.size := by obtain ⟨m, hm⟩ := k0; exact DataW.trod_lt m _ _ _ hm
  have k1 := h1
  have lt1 : ∀ x ∈ p1, x.block < W.heap.size := by obtain ⟨m, hm⟩ := k1; exact DataW.trod_lt m _ _ _ hm
  have k2 := h2
  have lt2 : ∀ x ∈ p2, x.block < W.heap.size := by obtain ⟨m, hm⟩ := k2; exact DataW.trod_lt m _ _ _ hm
  obtain ⟨n0, rfl, rfl, rfl, wn0⟩ := open_int Tryd.underlying2 (hval 0 2 v0 rfl rfl) h0
  obtain ⟨n1, rfl, rfl, rfl, wn1⟩ := open_int Tryd.underlying2 (hval 1 2 v1 rfl rfl) h1
  obtain ⟨n2, rfl, rfl, rfl, wn2⟩ := open_int Tryd.underlying2 (hval 2 2 v2 rfl rfl) h2
  clear hA0 hval0 hV0
  refine (walk W n0 wn0 n1 wn1 n2 wn2 A SV.sents).mono fun e W' ⟨he, bel⟩ => ?_
  subst he
  exact ⟨_, rfl, _, _, _, [], _, _, hW', trodAll_mk1 (shut_bool Tryd.underlying4 _), (trodAll_cons_mk (Below.trod laidOut (by kernel_rfl) (of_decide_eq_true (by kernel_rfl)) k0 bel lt0) (trodAll_cons_mk (Below.trod laidOut (by kernel_rfl) (of_decide_eq_true (by kernel_rfl)) k1 bel lt1) (trodAll_cons_mk (Below.trod laidOut (by kernel_rfl) (of_decide_eq_true (by kernel_rfl)) k2 bel lt2) trodAll_mk0))), Below.trodVars laidOut bel (by kernel_rfl) hV, bel.frame _, fun h => by cases h⟩

theorem over : Rows.fnExactPlainFieldRow.holds Tryd.pinned (OpenSpec.ofChange Rows.fnExactPlainFieldSpec) :=
  OpenClaim.holds_of_wide 3 Tryd.f3 rfl rfl rfl rfl rfl rfl rfl ⟨rfl, rfl, rfl, rfl, rfl⟩ rfl rfl rfl rfl rfl (by kernel_rfl) Tryd.func3 (by kernel_rfl)
    (of_decide_eq_true (by kernel_rfl)) (by unfold Func.isWrapper; first | (rw [if_pos (by decide +kernel)]; kernel_rfl) | (rw [if_neg (by decide +kernel)]; exact ⟨rfl, rfl⟩))
    (fun os started H enc _ => lifted os started H enc)
theorem proved : Rows.FnExactPlainFieldCardSaid :=
  Claim7.holds_tied_plain_at .later [] [.sentinel, .sentinel, .sentinel, .sentinel, .sentinel, .sentinel, .sentinel, .sentinel] true (true, "5ead317afa45037fd697cd9b67bbec9d1c161bfd3d9128a77f0a7b620744945f") true
    over (fun _ h => by cases h) (by kernel_rfl) (fun _ h => by cases h) fnExactPlainField_row_tie rfl ⟨rfl, rfl⟩ (by kernel_rfl) rfl
    (fun f fn hf hfn => by
      obtain rfl : f = 3 := Option.some.inj ((show Tryd.prog.funcNamed "loop.example/g01338/laws.FnExactPlainField" = some 3 by kernel_rfl).symm.trans hf) |>.symm
      obtain rfl : fn = Tryd.f3 := (Option.some.inj (Tryd.func3.symm.trans hfn)).symm
      exact ⟨by kernel_rfl, fun j t ht => by
        rw [Tryd.params3] at ht
        have hm : t ∈ [2, 2, 2] := by simpa using Array.mem_of_getElem? ht
        have hall : ([2, 2, 2].all fun u => !Tryd.prog.wantsStandIn u) = true := by kernel_rfl
        exact (show Tryd.prog.wantsStandIn t = false by simpa using List.all_eq_true.1 hall t hm)⟩)
    (by kernel_rfl)
#print axioms proved
end Go.Proofs.YtljlbdnlcibhfaaDoor.lawPlainField
