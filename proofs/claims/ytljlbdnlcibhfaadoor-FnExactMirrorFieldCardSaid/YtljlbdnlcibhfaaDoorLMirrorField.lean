/-
  MirrorField: for every field (valid or not) the program answers as the model does: no condition beyond the listed sentinels, which the card ties to the program's text.
-/
import Derived.Test.YtljlbdnlcibhfaaDoorArrI
import Derived.Test.YtljlbdnlcibhfaaDoorEqF
import Derived.Test.YtljlbdnlcibhfaaDoorLawh
import Derived.Test.YtljlbdnlcibhfaaDoorOpen
import Derived.Test.YtljlbdnlcibhfaaDoorCard
import Derived.Test.YtljlbdnlcibhfaaDoorTie
import Derived.Test.YtljlbdnlcibhfaaDoorCards
import Derived.SevenTiedAt
import Derived.OpenVars
namespace Go.Proofs.YtljlbdnlcibhfaaDoor.lawMirrorField
open Go Go.ChangeShapes Go.WideShapes Go.ChangeAt Go.RowKit

theorem sizes (f : Fd) : (-128 ≤ (mirrored f).W ∧ (mirrored f).W ≤ 127) ∧ (-128 ≤ (mirrored f).H ∧ (mirrored f).H ≤ 127) := by
  unfold mirrored
  split
  · rename_i h
    obtain ⟨h1, h2, h3, h4⟩ := okF_size h
    exact ⟨⟨by simp only [arr]; omega, by simp only [arr]; omega⟩, ⟨by simp only [arr]; omega, by simp only [arr]; omega⟩⟩
  · exact ⟨⟨by decide, by decide⟩, ⟨by decide, by decide⟩⟩
set_option maxRecDepth 100000 in
set_option maxHeartbeats 2000000 in
theorem walk (w : World) (f : Fd) (hf : f.Wf) (A : Nat → Addr) (S0 : Sents w A) : Calls Tryd.prog 7 #[.agg (fcells f)] w fun e w' => e = .returned (.bool true) ∧ Below w.heap.size w w' := by
  have S : Hid (Sents w A) := Lib.hid S0
  clear S0
  obtain ⟨hw, hh⟩ := sizes f
  have hz : Hid (Tryd.zeroCells27.size = 202) := Lib.hid (by rw [zeroFd, fcells_size])
  go_enter Tryd.func7, Tryd.ntmps7
  go_upto_region 1 with (fail)
  obtain ⟨W, hW, M⟩ := open1 w (fcells f) 32
  rw [hW]; clear hW
  go_upto_region 2 with (first
    | (refine wpList_load_part rfl 32 _ rfl w.heap.size 0 rfl (fcells f) _ (M.at 0 rfl).whole Tryd.underlying32 rfl (by rw [fcells_size]; exact sizeFl) ?_)
    | (go_at_call 13; refine (toField _ _).mono ?_; rintro e W1 ⟨rfl, hb⟩; have M1 := M.call hb; clear M hb)
    | (go_at_call 22; refine (specMirrorField f hf _).mono ?_; rintro e W2 ⟨rfl, hb⟩; have M2 := M1.call hb; clear M1 hb)
    | (refine wpList_store_row rfl 27 _ _ rfl W2.heap.size (fcells (mirrored f)) rfl rfl 27 _ ((M2.alloc Tryd.zeroCells27 27).at 1 rfl) (by rw [fcells_size]; exact sizeFd) (by rw [hz.out, fcells_size]) (fcells_one _) ?_))
  have M3 := (M2.alloc Tryd.zeroCells27 27).row 1 rfl (fcells (mirrored f))
  generalize World.setRow _ _ _ = W3 at M3 ⊢
  go_upto_region 3 with (first
    | (refine wpList_load_part rfl 32 _ rfl w.heap.size 0 rfl (fcells f) _ (M3.at 0 rfl).whole Tryd.underlying32 rfl (by rw [fcells_size]; exact sizeFl) ?_)
    | (go_at_call 13; refine (toField _ _).mono ?_; rintro e W4 ⟨rfl, hb⟩; have M4 := M3.call hb; clear M3 hb)
    | (go_at_call 23; refine (implMirrorField f hf A _ (S.out.later M4.below)).mono ?_; rintro e W5 ⟨rfl, hb⟩; have M5 := M4.call hb; clear M4 hb)
    | (refine wpList_store_row rfl 27 _ _ rfl W5.heap.size (fcells (mirrored f)) rfl rfl 27 _ ((M5.alloc Tryd.zeroCells27 27).at 2 rfl) (by rw [fcells_size]; exact sizeFd) (by rw [hz.out, fcells_size]) (fcells_one _) ?_))
  have M6 := (M5.alloc Tryd.zeroCells27 27).row 2 rfl (fcells (mirrored f))
  generalize World.setRow _ _ _ = W6 at M6 ⊢
  have ok1 : True := trivial
  have ok2 : True := trivial
  go_wp2_with (first
    | (clear ok1; refine wpList_load_part rfl 27 _ rfl W5.heap.size 0 rfl (fcells (mirrored f)) _ (M6.at 2 rfl).whole Tryd.underlying27 rfl (by rw [fcells_size]; exact sizeFd) ?_)
    | (clear ok2; refine wpList_load_part rfl 27 _ rfl W2.heap.size 0 rfl (fcells (mirrored f)) _ (M6.at 1 rfl).whole Tryd.underlying27 rfl (by rw [fcells_size]; exact sizeFd) ?_)
    | (go_at_call 11; refine (eqField_same (mirrored f) hw hh _).mono ?_; rintro e W7 ⟨rfl, hb⟩; have M7 := M6.call hb; clear M6 hb))
  all_goals (go_ret; exact ⟨rfl, M7.below⟩)

theorem trodVars_len {H : Type} {enc : TypeId × Value → H} {P : Program} {w : World} {sp : Nat → Bool} : ∀ {ns : List String} {gs : List (DataW H)} {ps : List MemPlace}, DataW.TrodVars enc P w sp ns gs ps → gs.length = ns.length
  | [], [], _, _ => rfl
  | [], _ :: _, _, h => h.elim
  | _ :: _, [], _, h => h.elim
  | _ :: _, _ :: _, _, ⟨_, _, _, _, _, _, _, _, _, _, h, _⟩ => congrArg (· + 1) (trodVars_len h)
theorem door_met (os : Os) (args : Array Value) : laidMetH Tryd.prog Rows.fnExactMirrorFieldRow.laid ((World.doorLaid Tryd.prog 400 os).forCall (fun _ _ => 0) ⟨#[], args, []⟩).memory :=
  laidMetH_of_parts3 (fuel := 8) (laidMet_of_run' 8 (by kernel_rfl) (by kernel_rfl)) (by kernel_rfl) (by kernel_rfl)
set_option maxRecDepth 100000 in
theorem lifted (os : Os) (started : os.Started) (H : Type) (enc : TypeId × Value → H) :
    ReturnsInHanded {} Tryd.checked os 7 .any (fun w args => (Rows.fnExactMirrorFieldSpec.pre enc Tryd.prog Tryd.f7 Rows.fnExactMirrorFieldRow.domain false w args ∧ laidMetH Tryd.prog Rows.fnExactMirrorFieldRow.laid w) ∧ sizedMet enc Tryd.prog Tryd.f7 (OpenSpec.ofChange Rows.fnExactMirrorFieldSpec) false w args) (Rows.fnExactMirrorFieldSpec.post enc Tryd.prog Tryd.f7 false true false false) := by
  refine returnsInHanded_of_change_and (C := Tryd.checked) (X := fun w _ => laidMetH Tryd.prog Rows.fnExactMirrorFieldRow.laid w) (fun _ _ _ hh h => h.of_heap hh) own started (by kernel_rfl) Tryd.func7
    (ChangeSpec.witness_shaped (enc := enc) (C := Tryd.checked) (os := os) (X := fun w _ => laidMetH Tryd.prog Rows.fnExactMirrorFieldRow.laid w) false (World.doorLaid Tryd.prog 400 os) #[.agg (fcells Fd.zero)] 8 rfl (World.shaped_of_RefB (by kernel_rfl) (by kernel_rfl)) (by kernel_rfl) (by kernel_rfl) (by kernel_rfl) (door_met os _)) ?_
  intro W base args ds gs before hval0 hW _ _ hL _
  have hval : ∀ (j : Nat) t v, Tryd.f7.params[j]? = some t → args[j]? = some v → Value.okWide Tryd.prog W .any base t v := hval0
  have hW' := hW
  obtain ⟨p, q, hA0, hV0, rfl, hfz, hnd⟩ := hW
  have hA : DataW.TrodAll enc Tryd.prog W 0 (fun _ => true) true Tryd.f7.params.toList args.toList ds p := hA0
  have hV : DataW.TrodVars enc Tryd.prog W (fun _ => true) Rows.fnExactMirrorFieldSpec.vars gs q := hV0
  rw [Tryd.params7] at hA hval
  obtain ⟨v0, vs0, d0, ds0, p0, q0, hargs, rfl, rfl, h0, r0⟩ := trodAll_cons hA
  obtain ⟨rfl, rfl, rfl⟩ := trodAll_nil r0
  obtain rfl : args = #[v0] := by cases args; simp_all
  rw [MakeChecks.laidMetH_plain _ _ _ (by kernel_rfl)] at hL
  obtain ⟨A, SV⟩ := sentVars (rest := []) hL
  have hlen := trodVars_len hV
  obtain ⟨g1, g2, g3, g4, g5, g6, g7, g8, rfl⟩ : ∃ g1 g2 g3 g4 g5 g6 g7 g8, gs = [g1, g2, g3, g4, g5, g6, g7, g8] := by
    match gs, hlen with
    | [g1, g2, g3, g4, g5, g6, g7, g8], _ => exact ⟨g1, g2, g3, g4, g5, g6, g7, g8, rfl⟩
  have k0 := h0
  have lt0 : ∀ x ∈ p0, x.block < W.heap.size := by obtain ⟨m, hm⟩ := k0; exact DataW.trod_lt m _ _ _ hm
  obtain ⟨f0, rfl, hf0⟩ := open_field (fs := Tryd.prog.fieldsOf 32) (by kernel_rfl) (by kernel_rfl) Tryd.underlying22 Tryd.underlying23 Tryd.underlying5 Tryd.underlying25 Tryd.underlying24 (by kernel_rfl) (by kernel_rfl) (by kernel_rfl) (by kernel_rfl) (by kernel_rfl) (by kernel_rfl) (hval 0 32 v0 rfl rfl) h0
  clear hA0 hval0 hV0
  refine (walk W f0 hf0 A SV.sents).mono fun e W' ⟨he, bel⟩ => ?_
  subst he
  exact ⟨_, rfl, _, _, _, [], _, _, hW', trodAll_mk1 (shut_bool Tryd.underlying4 _), (trodAll_cons_mk (Below.trod laidOut (by kernel_rfl) (of_decide_eq_true (by kernel_rfl)) k0 bel lt0) trodAll_mk0), Below.trodVars laidOut bel (by kernel_rfl) hV, bel.frame _, fun h => by cases h⟩

theorem over : Rows.fnExactMirrorFieldRow.holds Tryd.pinned (OpenSpec.ofChange Rows.fnExactMirrorFieldSpec) :=
  OpenClaim.holds_of_wide 7 Tryd.f7 rfl rfl rfl rfl rfl rfl rfl ⟨rfl, rfl, rfl, rfl, rfl⟩ rfl rfl rfl rfl rfl (by kernel_rfl) Tryd.func7 (by kernel_rfl)
    (of_decide_eq_true (by kernel_rfl)) (by unfold Func.isWrapper; first | (rw [if_pos (by decide +kernel)]; kernel_rfl) | (rw [if_neg (by decide +kernel)]; exact ⟨rfl, rfl⟩))
    (fun os started H enc _ => lifted os started H enc)
theorem proved : Rows.FnExactMirrorFieldCardSaid :=
  Claim7.holds_tied_plain_at .later [] [.sentinel, .sentinel, .sentinel, .sentinel, .sentinel, .sentinel, .sentinel, .sentinel] true (true, "5ead317afa45037fd697cd9b67bbec9d1c161bfd3d9128a77f0a7b620744945f") true
    over (fun _ h => by cases h) (by kernel_rfl) (fun _ h => by cases h) fnExactMirrorField_row_tie rfl ⟨rfl, rfl⟩ (by kernel_rfl) rfl
    (fun f fn hf hfn => by
      obtain rfl : f = 7 := Option.some.inj ((show Tryd.prog.funcNamed "loop.example/g01338/laws.FnExactMirrorField" = some 7 by kernel_rfl).symm.trans hf) |>.symm
      obtain rfl : fn = Tryd.f7 := (Option.some.inj (Tryd.func7.symm.trans hfn)).symm
      exact ⟨by kernel_rfl, fun j t ht => by
        rw [Tryd.params7] at ht
        have hm : t ∈ [32] := by simpa using Array.mem_of_getElem? ht
        have hall : ([32].all fun u => !Tryd.prog.wantsStandIn u) = true := by kernel_rfl
        exact (show Tryd.prog.wantsStandIn t = false by simpa using List.all_eq_true.1 hall t hm)⟩)
    (by kernel_rfl)
#print axioms proved
end Go.Proofs.YtljlbdnlcibhfaaDoor.lawMirrorField
