/-
  CellsOf: for all lists of numbers, short or long, nil or not, the program answers as the model does: no condition beyond the listed sentinels, which the card ties to the program's text.
-/
import Derived.Test.YtljlbdnlcibhfaaDoorCellsOf
import Derived.Test.YtljlbdnlcibhfaaDoorCard
import Derived.Test.YtljlbdnlcibhfaaDoorTie
import Derived.Test.YtljlbdnlcibhfaaDoorCards
import Derived.SevenTiedAt
import Derived.OpenVars
namespace Go.Proofs.YtljlbdnlcibhfaaDoor.lawCellsOf
open Go Go.ChangeShapes Go.WideShapes Go.ChangeAt Go.RowKit

set_option maxRecDepth 100000 in
set_option maxHeartbeats 2000000 in
theorem walk (w : World) (p : Option Addr) (n c : Nat) (g : Nat → Int) (hn : n ≤ 9223372036854775807) (J : InJ w p n g) (hg : Wf64 n g) (A : Nat → Addr) (S0 : Sents w A) : Calls Tryd.prog 5 #[.slice p n c] w fun e w' => e = .returned (.bool true) ∧ Below w.heap.size w w' := by
  have S : Hid (Sents w A) := Lib.hid S0
  have HJ := Lib.hid J
  clear S0 J
  have M := Mem.nil w
  by_cases h1 : (1048576 : Int) < n
  · go_enter Tryd.func5, Tryd.ntmps5
    go_wp2_with fail
    go_ret
    exact ⟨rfl, Below.refl _ _⟩
  have hn40 : n ≤ 2 ^ 40 := by omega
  go_enter Tryd.func5, Tryd.ntmps5
  go_upto_region 4 with (first
    | (go_at_call 17; refine (toInt64S_arg n hn40 g p c _ HJ.out).mono ?_; rintro e W1 ⟨b1, rfl, I1, hb⟩; have J1 := Lib.hid I1; clear I1; have M1 := M.call hb; clear M hb)
    | (go_at_call 16; refine (specCellsOf n hn40 g hg b1 _ _ J1.out).mono ?_; rintro e W2 ⟨rfl, hb⟩; have M2 := M1.call hb; clear M1 hb J1)
    | (refine wpList_store_row rfl 35 _ _ rfl W2.heap.size (acells .u64 2 (cellsOfL g n)) rfl rfl 35 _ ((M2.alloc #[.int .u64 0, .int .u64 0] 35).at 0 rfl) (by rw [acells_size]; exact sizeC) (by rw [acells_size]; rfl) (acells_one _ _ _) ?_))
  have M3 := (M2.alloc #[.int .u64 0, .int .u64 0] 35).row 0 rfl (acells .u64 2 (cellsOfL g n))
  generalize World.setRow _ _ _ = W3 at M3 ⊢
  go_upto_region 6 with (first
    | (go_at_call 17; refine (toInt64S_arg n hn40 g p c _ (HJ.out.later M3.below)).mono ?_; rintro e W4 ⟨b4, rfl, I4, hb⟩; have J4 := Lib.hid I4; clear I4; have M4 := M3.call hb; clear M3 hb)
    | (go_at_call 18; refine (implCellsOf n hn40 g hg b4 _ A _ (S.out.later M4.below) J4.out).mono ?_; rintro e W5 ⟨rfl, hb⟩; have J5 := Lib.hid (J4.out.later hb); clear J4; have M5 := M4.call hb; clear M4 hb)
    | (refine wpList_store_row rfl 35 _ _ rfl W5.heap.size (acells .u64 2 (cellsOfL g n)) rfl rfl 35 _ ((M5.alloc #[.int .u64 0, .int .u64 0] 35).at 1 rfl) (by rw [acells_size]; exact sizeC) (by rw [acells_size]; rfl) (acells_one _ _ _) ?_))
  have M6 := (M5.alloc #[.int .u64 0, .int .u64 0] 35).row 1 rfl (acells .u64 2 (cellsOfL g n))
  have hb56 : Below W5.heap.size W5 ((W5.alloc (.cells #[.int .u64 0, .int .u64 0] 35)).setRow W5.heap.size (acells .u64 2 (cellsOfL g n))) := below_row ((Below.refl _ _).alloc (Nat.le_refl _) _) (Nat.le_refl _) _
  have J6 := Lib.hid (J5.out.later hb56)
  clear hb56 J5
  generalize World.setRow _ _ _ = W6 at M6 J6 ⊢
  have ok1 : True := trivial
  have ok2 : True := trivial
  go_wp2_with (first
    | (clear ok1; refine wpList_load_part rfl 35 _ rfl W5.heap.size 0 rfl (acells .u64 2 (cellsOfL g n)) _ (M6.at 1 rfl).whole Tryd.underlying35 rfl (by rw [acells_size]; exact sizeC) ?_)
    | (clear ok2; refine wpList_load_part rfl 35 _ rfl W2.heap.size 0 rfl (acells .u64 2 (cellsOfL g n)) _ (M6.at 0 rfl).whole Tryd.underlying35 rfl (by rw [acells_size]; exact sizeC) ?_)
    | (go_at_call 15; refine (eqCells (cellsOfL g n) _).mono ?_; rintro e W7 ⟨rfl, hb⟩; have J7 := Lib.hid (J6.out.later hb); clear J6; have M7 := M6.call hb; clear M6 hb)
    | (go_at_call 17; refine (toInt64S_arg n hn40 g p c _ (HJ.out.later M7.below)).mono ?_; rintro e W8 ⟨b8, rfl, I8, hb⟩; have J8 := Lib.hid I8; clear I8; have K8 := Lib.hid (J7.out.later hb); clear J7; have M8 := M7.call hb; clear M7 hb)
    | (go_at_call 19; refine (eqInt64S_same n hn40 g b4 b8 _ _ _ K8.out J8.out).mono ?_; rintro e W9 ⟨rfl, hb⟩; have M9 := M8.call hb; clear M8 hb))
  go_ret
  exact ⟨rfl, M9.below⟩

theorem trodVars_len {H : Type} {enc : TypeId × Value → H} {P : Program} {w : World} {sp : Nat → Bool} : ∀ {ns : List String} {gs : List (DataW H)} {ps : List MemPlace}, DataW.TrodVars enc P w sp ns gs ps → gs.length = ns.length
  | [], [], _, _ => rfl
  | [], _ :: _, _, h => h.elim
  | _ :: _, [], _, h => h.elim
  | _ :: _, _ :: _, _, ⟨_, _, _, _, _, _, _, _, _, _, h, _⟩ => congrArg (· + 1) (trodVars_len h)
theorem door_met (os : Os) (args : Array Value) : laidMetH Tryd.prog Rows.fnExactCellsOfRow.laid ((World.doorLaid Tryd.prog 400 os).forCall (fun _ _ => 0) ⟨#[], args, []⟩).memory :=
  laidMetH_of_parts3 (fuel := 8) (laidMet_of_run' 8 (by kernel_rfl) (by kernel_rfl)) (by kernel_rfl) (by kernel_rfl)
set_option maxRecDepth 100000 in
theorem lifted (os : Os) (started : os.Started) (H : Type) (enc : TypeId × Value → H) :
    ReturnsInHanded {} Tryd.checked os 5 .any (fun w args => (Rows.fnExactCellsOfSpec.pre enc Tryd.prog Tryd.f5 Rows.fnExactCellsOfRow.domain false w args ∧ laidMetH Tryd.prog Rows.fnExactCellsOfRow.laid w) ∧ sizedMet enc Tryd.prog Tryd.f5 (OpenSpec.ofChange Rows.fnExactCellsOfSpec) false w args) (Rows.fnExactCellsOfSpec.post enc Tryd.prog Tryd.f5 false true false false) := by
  refine returnsInHanded_of_change_and (C := Tryd.checked) (X := fun w _ => laidMetH Tryd.prog Rows.fnExactCellsOfRow.laid w) (fun _ _ _ hh h => h.of_heap hh) own started (by kernel_rfl) Tryd.func5
    (ChangeSpec.witness_shaped (enc := enc) (C := Tryd.checked) (os := os) (X := fun w _ => laidMetH Tryd.prog Rows.fnExactCellsOfRow.laid w) false (World.doorLaid Tryd.prog 400 os) #[.slice none 0 0] 8 rfl (World.shaped_of_RefB (by kernel_rfl) (by kernel_rfl)) (by kernel_rfl) (by kernel_rfl) (by kernel_rfl) (door_met os _)) ?_
  intro W base args ds gs before hval0 hW _ _ hL _
  have hval : ∀ (j : Nat) t v, Tryd.f5.params[j]? = some t → args[j]? = some v → Value.okWide Tryd.prog W .any base t v := hval0
  have hW' := hW
  obtain ⟨p, q, hA0, hV0, rfl, hfz, hnd⟩ := hW
  have hA : DataW.TrodAll enc Tryd.prog W 0 (fun _ => true) true Tryd.f5.params.toList args.toList ds p := hA0
  have hV : DataW.TrodVars enc Tryd.prog W (fun _ => true) Rows.fnExactCellsOfSpec.vars gs q := hV0
  rw [Tryd.params5] at hA hval
  obtain ⟨v0, vs0, d0, ds0, p0, q0, hargs, rfl, rfl, h0, r0⟩ := trodAll_cons hA
  obtain ⟨rfl, rfl, rfl⟩ := trodAll_nil r0
  obtain rfl : args = #[v0] := by cases args; simp_all
  rw [MakeChecks.laidMetH_plain _ _ _ (by kernel_rfl)] at hL
  obtain ⟨A, SV⟩ := sentVars (rest := []) hL
  have hlen := trodVars_len hV
  obtain ⟨gv1, gv2, gv3, gv4, gv5, gv6, gv7, gv8, rfl⟩ : ∃ gv1 gv2 gv3 gv4 gv5 gv6 gv7 gv8, gs = [gv1, gv2, gv3, gv4, gv5, gv6, gv7, gv8] := by
    match gs, hlen with
    | [gv1, gv2, gv3, gv4, gv5, gv6, gv7, gv8], _ => exact ⟨gv1, gv2, gv3, gv4, gv5, gv6, gv7, gv8, rfl⟩
  have k0 := h0
  have lt0 : ∀ x ∈ p0, x.block < W.heap.size := by obtain ⟨m, hm⟩ := k0; exact DataW.trod_lt m _ _ _ hm
  obtain ⟨s0, z0, c0, g0, rfl, hz0, hi0, hg0⟩ := open_nums Tryd.underlying41 Tryd.underlying2 (by kernel_rfl) (hval 0 41 v0 rfl rfl) h0
  clear hA0 hval0 hV0
  refine (walk W s0 z0 c0 g0 (by simpa [maxLen] using hz0) hi0 hg0 A SV.sents).mono fun e W' ⟨he, bel⟩ => ?_
  subst he
  exact ⟨_, rfl, _, _, _, [], _, _, hW', trodAll_mk1 (shut_bool Tryd.underlying4 _), (trodAll_cons_mk (Below.trod laidOut (by kernel_rfl) (of_decide_eq_true (by kernel_rfl)) k0 bel lt0) trodAll_mk0), Below.trodVars laidOut bel (by kernel_rfl) hV, bel.frame _, fun h => by cases h⟩

theorem over : Rows.fnExactCellsOfRow.holds Tryd.pinned (OpenSpec.ofChange Rows.fnExactCellsOfSpec) :=
  OpenClaim.holds_of_wide 5 Tryd.f5 rfl rfl rfl rfl rfl rfl rfl ⟨rfl, rfl, rfl, rfl, rfl⟩ rfl rfl rfl rfl rfl (by kernel_rfl) Tryd.func5 (by kernel_rfl)
    (of_decide_eq_true (by kernel_rfl)) (by unfold Func.isWrapper; first | (rw [if_pos (by decide +kernel)]; kernel_rfl) | (rw [if_neg (by decide +kernel)]; exact ⟨rfl, rfl⟩))
    (fun os started H enc _ => lifted os started H enc)
theorem proved : Rows.FnExactCellsOfCardSaid :=
  Claim7.holds_tied_plain_at .later [] [.sentinel, .sentinel, .sentinel, .sentinel, .sentinel, .sentinel, .sentinel, .sentinel] true (true, "5ead317afa45037fd697cd9b67bbec9d1c161bfd3d9128a77f0a7b620744945f") true
    over (fun _ h => by cases h) (by kernel_rfl) (fun _ h => by cases h) fnExactCellsOf_row_tie rfl ⟨rfl, rfl⟩ (by kernel_rfl) rfl
    (fun f fn hf hfn => by
      obtain rfl : f = 5 := Option.some.inj ((show Tryd.prog.funcNamed "loop.example/g01338/laws.FnExactCellsOf" = some 5 by kernel_rfl).symm.trans hf) |>.symm
      obtain rfl : fn = Tryd.f5 := (Option.some.inj (Tryd.func5.symm.trans hfn)).symm
      exact ⟨by kernel_rfl, fun j t ht => by
        rw [Tryd.params5] at ht
        have hm : t ∈ [41] := by simpa using Array.mem_of_getElem? ht
        have hall : ([41].all fun u => !Tryd.prog.wantsStandIn u) = true := by kernel_rfl
        exact (show Tryd.prog.wantsStandIn t = false by simpa using List.all_eq_true.1 hall t hm)⟩)
    (by kernel_rfl)
#print axioms proved
end Go.Proofs.YtljlbdnlcibhfaaDoor.lawCellsOf
