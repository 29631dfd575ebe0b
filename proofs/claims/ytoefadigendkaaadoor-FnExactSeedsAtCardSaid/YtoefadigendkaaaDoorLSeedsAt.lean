/-
  For every field (valid or not) and every number, the program's SeedsAt answers as the model's: no condition beyond the listed sentinels, which the card ties to the program's text.
-/
import Derived.Test.YtoefadigendkaaaDoorAt
import Derived.Test.YtoefadigendkaaaDoorLawh
import Derived.Test.YtoefadigendkaaaDoorOpen
import Derived.Test.YtoefadigendkaaaDoorCard
import Derived.Test.YtoefadigendkaaaDoorTie
import Derived.Test.YtoefadigendkaaaDoorCards
import Derived.SevenTiedAt
namespace Go.Proofs.YtoefadigendkaaaDoor.lawSeedsAt
open Go Go.ChangeShapes Go.WideShapes Go.ChangeAt Go.RowKit

set_option maxRecDepth 100000 in
set_option maxHeartbeats 2000000 in
theorem walk (f : Fd) (hf : f.Wf) (c : Int) (hc : (Lit.int .i64 c).wf = true) (A : Nat → Addr) (w : World) (S0 : Sents w A) : Calls Tryd.prog 5 #[.agg (fcells f), .int .i64 c] w fun e w' => e = .returned (.bool true) ∧ Below w.heap.size w w' := by
  have S : Hid (Sents w A) := Lib.hid S0
  clear S0
  obtain ⟨hc1, hc2⟩ := bounds_i64 hc
  clear hc
  go_enter Tryd.func5, Tryd.ntmps5
  go_upto_region 1 with (fail)
  obtain ⟨W, hW, M⟩ := open1 w (fcells f) 29
  rw [hW]; clear hW
  go_upto_region 2 with (first
    | (refine wpList_load_part rfl 29 _ rfl w.heap.size 0 rfl (fcells f) _ (M.at 0 rfl).whole Tryd.underlying29 rfl (by rw [fcells_size]; exact sizeFl) ?_)
    | (go_at_call 13; refine (toField _ _).mono ?_; rintro e W1 ⟨rfl, hb⟩; have M1 := M.call hb; clear M hb)
    | (go_at_call 15; refine (specSeedsAt f hf c _).mono ?_; rintro e W2 ⟨rfl, hb⟩; have M2 := M1.call hb; clear M1 hb))
  go_wp2_with (first
    | (refine wpList_load_part rfl 29 _ rfl w.heap.size 0 rfl (fcells f) _ (M2.at 0 rfl).whole Tryd.underlying29 rfl (by rw [fcells_size]; exact sizeFl) ?_)
    | (go_at_call 13; refine (toField _ _).mono ?_; rintro e W3 ⟨rfl, hb⟩; have M3 := M2.call hb; clear M2 hb)
    | (go_at_call 16; refine (implSeedsAt f hf c hc1 hc2 A _ (S.out.later M3.below)).mono ?_; rintro e W4 ⟨rfl, hb⟩; have M4 := M3.call hb; clear M3 hb))
  go_ret
  exact ⟨rfl, M4.below⟩

abbrev rest : List (String × DataW Unit) := []
theorem door_met (os : Os) (args : Array Value) : laidMetH Tryd.prog Rows.fnExactSeedsAtRow.laid ((World.doorLaid Tryd.prog 400 os).forCall (fun _ _ => 0) ⟨#[], args, []⟩).memory :=
  laidMetH_of_parts3 (fuel := 8) (laidMet_of_run' 8 (by kernel_rfl) (by kernel_rfl)) (by kernel_rfl) (by kernel_rfl)
abbrev named : List (Nat × Nat × String × List UInt8) := [(1, 1, (sentNames.getD 1 default)), (0, 0, (sentNames.getD 0 default)), (2, 2, (sentNames.getD 2 default)), (3, 3, (sentNames.getD 3 default)), (4, 4, (sentNames.getD 4 default)), (5, 5, (sentNames.getD 5 default)), (6, 6, (sentNames.getD 6 default)), (7, 7, (sentNames.getD 7 default))]
theorem named_ok : ∀ x ∈ named, sentNames[x.1]? = some x.2.2 ∧ Tryd.prog.globalNamed x.2.2.1 = some x.2.1 := by
  intro x hx
  simp only [named, List.mem_cons, List.mem_nil_iff, or_false] at hx
  rcases hx with rfl | rfl | rfl | rfl | rfl | rfl | rfl | rfl
  all_goals exact ⟨rfl, by kernel_rfl⟩
set_option maxRecDepth 100000 in
theorem lifted (os : Os) (started : os.Started) (H : Type) (enc : TypeId × Value → H) :
    ReturnsInHanded {} Tryd.checked os 5 .any (fun w args => (Rows.fnExactSeedsAtSpec.pre enc Tryd.prog Tryd.f5 Rows.fnExactSeedsAtRow.domain false w args ∧ laidMetH Tryd.prog Rows.fnExactSeedsAtRow.laid w) ∧ sizedMet enc Tryd.prog Tryd.f5 (OpenSpec.ofChange Rows.fnExactSeedsAtSpec) false w args) (Rows.fnExactSeedsAtSpec.post enc Tryd.prog Tryd.f5 false true false false) := by
  refine returnsInHanded_of_change_and (C := Tryd.checked) (X := fun w _ => laidMetH Tryd.prog Rows.fnExactSeedsAtRow.laid w) (fun _ _ _ hh h => h.of_heap hh) own started (by kernel_rfl) Tryd.func5
    (ChangeSpec.witness_shaped (enc := enc) (C := Tryd.checked) (os := os) (X := fun w _ => laidMetH Tryd.prog Rows.fnExactSeedsAtRow.laid w) false (World.doorLaid Tryd.prog 400 os) #[.agg (fcells Fd.zero), .int .i64 0] 8 rfl (World.shaped_of_RefB (by kernel_rfl) (by kernel_rfl)) (by kernel_rfl) (by kernel_rfl) (by kernel_rfl) (door_met os _)) ?_
  intro W base args ds gs before hval0 hW _ _ hL _
  have hval : ∀ (j : Nat) t v, Tryd.f5.params[j]? = some t → args[j]? = some v → Value.okWide Tryd.prog W .any base t v := hval0
  have hW' := hW
  obtain ⟨p, q, hA0, hV0, rfl, hfz, hnd⟩ := hW
  have hA : DataW.TrodAll enc Tryd.prog W 0 (fun _ => true) true Tryd.f5.params.toList args.toList ds p := hA0
  have hV : DataW.TrodVars enc Tryd.prog W (fun _ => true) Rows.fnExactSeedsAtSpec.vars gs q := hV0
  rw [Tryd.params5] at hA hval
  obtain ⟨v0, vs0, d0, ds0, p0, q0, hargs, rfl, rfl, h0, r0⟩ := trodAll_cons hA
  obtain ⟨v1, vs1, d1, ds1, p1, q1, rfl, rfl, rfl, h1, r1⟩ := trodAll_cons r0
  obtain ⟨rfl, rfl, rfl⟩ := trodAll_nil r1
  obtain rfl : args = #[v0, v1] := by cases args; simp_all
  rw [MakeChecks.laidMetH_plain _ _ _ (by kernel_rfl)] at hL
  obtain ⟨A, SV⟩ := sentVars (rest := rest) hL
  have vr : ∀ {X : World}, SentVars X A → ∀ sp : Nat → Bool, DataW.TrodVars enc Tryd.prog X sp Rows.fnExactSeedsAtSpec.vars (named.map (fun x => tok enc (errVal (A (x.1 + 1)))) ++ []) (named.map (fun x => MemPlace.cell x.2.1 0) ++ []) := fun S sp => trodSents enc S sp named [] [] [] named_ok rfl
  obtain ⟨rfl, rfl⟩ := hV.unique (vr SV _)
  have k0 := h0
  have lt0 : ∀ x ∈ p0, x.block < W.heap.size := by obtain ⟨m, hm⟩ := k0; exact DataW.trod_lt m _ _ _ hm
  have k1 := h1
  have lt1 : ∀ x ∈ p1, x.block < W.heap.size := by obtain ⟨m, hm⟩ := k1; exact DataW.trod_lt m _ _ _ hm
  obtain ⟨f0, rfl, hf0⟩ := open_field (fs := Tryd.prog.fieldsOf 29) (by kernel_rfl) (by kernel_rfl) Tryd.underlying24 Tryd.underlying25 Tryd.underlying5 Tryd.underlying27 Tryd.underlying26 (by kernel_rfl) (by kernel_rfl) (by kernel_rfl) (by kernel_rfl) (by kernel_rfl) (by kernel_rfl) (hval 0 29 v0 rfl rfl) h0
  obtain ⟨n1, rfl, rfl, rfl, wn1⟩ := open_int Tryd.underlying2 (hval 1 2 v1 rfl rfl) h1
  clear hA0 hval0 hV0
  refine (walk f0 hf0 n1 wn1 A W SV.sents).mono fun e W' ⟨he, bel⟩ => ?_
  subst he
  exact ⟨_, rfl, _, _, _, [], _, _, hW', trodAll_mk1 (shut_bool Tryd.underlying4 _), (trodAll_cons_mk (Below.trod laidOut (by kernel_rfl) (of_decide_eq_true (by kernel_rfl)) k0 bel lt0) (trodAll_cons_mk (Below.trod laidOut (by kernel_rfl) (of_decide_eq_true (by kernel_rfl)) k1 bel lt1) trodAll_mk0)), vr (SV.later bel) _, bel.frame _, fun h => by cases h⟩

theorem over : Rows.fnExactSeedsAtRow.holds Tryd.pinned (OpenSpec.ofChange Rows.fnExactSeedsAtSpec) :=
  OpenClaim.holds_of_wide 5 Tryd.f5 rfl rfl rfl rfl rfl rfl rfl ⟨rfl, rfl, rfl, rfl, rfl⟩ rfl rfl rfl rfl rfl (by kernel_rfl) Tryd.func5 (by kernel_rfl)
    (of_decide_eq_true (by kernel_rfl)) (by unfold Func.isWrapper; first | (rw [if_pos (by decide +kernel)]; kernel_rfl) | (rw [if_neg (by decide +kernel)]; exact ⟨rfl, rfl⟩))
    (fun os started H enc _ => lifted os started H enc)
theorem proved : Rows.FnExactSeedsAtCardSaid :=
  Claim7.holds_tied_plain_at .later [] [.sentinel, .sentinel, .sentinel, .sentinel, .sentinel, .sentinel, .sentinel, .sentinel] true (true, "42357eaf455ba3226265fedfe7d8b42567319aee955b0e492a9734ace41ad060") true
    over (fun _ h => by cases h) (by kernel_rfl) (fun _ h => by cases h) fnExactSeedsAt_row_tie rfl ⟨rfl, rfl⟩ (by kernel_rfl) rfl
    (fun f fn hf hfn => by
      obtain rfl : f = 5 := Option.some.inj ((show Tryd.prog.funcNamed "loop.example/g01338/laws.FnExactSeedsAt" = some 5 by kernel_rfl).symm.trans hf) |>.symm
      obtain rfl : fn = Tryd.f5 := (Option.some.inj (Tryd.func5.symm.trans hfn)).symm
      exact ⟨by kernel_rfl, fun j t ht => by
        rw [Tryd.params5] at ht
        have hm : t ∈ [29, 2] := by simpa using Array.mem_of_getElem? ht
        have hall : ([29, 2].all fun u => !Tryd.prog.wantsStandIn u) = true := by kernel_rfl
        exact (show Tryd.prog.wantsStandIn t = false by simpa using List.all_eq_true.1 hall t hm)⟩)
    (by kernel_rfl)
#print axioms proved
end Go.Proofs.YtoefadigendkaaaDoor.lawSeedsAt
