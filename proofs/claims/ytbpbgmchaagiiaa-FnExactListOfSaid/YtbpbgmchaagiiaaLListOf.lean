/-
  ListOf: for every two words the program's list is the model's, and its memory is its own: no condition.
-/
import Derived.Test.YtbpbgmchaagiiaaAppSeq
import Derived.Test.YtbpbgmchaagiiaaMark
import Derived.Test.YtbpbgmchaagiiaaLawh
import Derived.Test.YtbpbgmchaagiiaaOpen
import Derived.Test.YtbpbgmchaagiiaaRows
import Derived.ChangeOld
import Derived.Below
namespace Go.Proofs.Ytbpbgmchaagiiaa.lawListOf
open Go Go.ChangeShapes Go.WideShapes Go.ChangeAt Go.RowKit

theorem own : ownKnob Try.prog.godebug = none := by kernel_rfl
theorem laidOut : laidOutB Try.prog = true := by kernel_rfl
theorem specListOf (g : Nat → Int) (w : World) : Calls Try.prog 4 #[.agg (acells .u64 2 g)] w fun e w' => ∃ v, e = .returned v ∧ Lst w.heap.size w' v (hlist g 100) ∧ Below w.heap.size w w' := by
  go_enter Try.func4, Try.ntmps4
  go_upto_region 1 with (fail)
  obtain ⟨W, hW, M⟩ := open1 w (acells .u64 2 g) 26
  rw [hW]; clear hW
  have hs := M.below.size
  go_wp2_with (go_at_call 10; refine (l01List_any g _ _ (M.at 0 rfl)).mono ?_; rintro e w1 ⟨v, rfl, ho, hb⟩)
  go_ret
  exact ⟨v, rfl, ho.mono hs, M.below.trans (hb.mono hs)⟩
set_option maxRecDepth 100000 in
set_option maxHeartbeats 2000000 in
theorem walk (g : Nat → Int) (_hg : ∀ i, i < 2 → (Lit.int .u64 (g i)).wf = true) (w : World) : Calls Try.prog 3 #[.agg (acells .u64 2 g)] w fun e w' => e = .returned (.bool true) ∧ Below w.heap.size w w' := by
  have hlen : (hlist g 100).length ≤ 2 ^ 40 := by have := hlist_le g 100; omega
  go_enter Try.func3, Try.ntmps3
  go_upto_region 1 with (fail)
  obtain ⟨W, hW, M⟩ := open1 w (acells .u64 2 g) 23
  rw [hW]; clear hW
  go_upto_region 2 with (first
    | (refine wpList_load_part rfl 23 _ rfl w.heap.size 0 rfl (acells .u64 2 g) _ (M.at 0 rfl).whole Try.underlying23 rfl (by rw [acells_size]; exact sizeA) ?_)
    | (go_at_call 5; refine (toCells _ _).mono ?_; rintro e W1 ⟨rfl, hb⟩; have M1 := M.call hb; clear M hb)
    | (go_at_call 4; refine (specListOf g _).mono ?_; rintro e W2 ⟨v1, rfl, O1, hb⟩; have M2 := M1.call hb; clear M1 hb; obtain ⟨p1, c1, rfl, J1, P1, _⟩ := O1.val; clear O1))
  go_upto_region 3 with (first
    | (refine wpList_load_part rfl 23 _ rfl w.heap.size 0 rfl (acells .u64 2 g) _ (M2.at 0 rfl).whole Try.underlying23 rfl (by rw [acells_size]; exact sizeA) ?_)
    | (go_at_call 5; refine (toCells _ _).mono ?_; rintro e W3 ⟨rfl, hb⟩; have M3 := M2.call hb; have J3 := J1.later hb; have z3 := hb.size; clear M2 hb J1)
    | (go_at_call 6; refine (implListOf g _).mono ?_; rintro e W4 ⟨v2, rfl, O2, hb⟩; have M4 := M3.call hb; have J4 := J3.later hb; have z4 := hb.size; have l3 := (M3.at 0 rfl).lt; have s3 := M3.below.size; clear M3 hb J3; have O2 : Lst W3.heap.size W4 v2 (hlist g 100) := O2; obtain ⟨p2, c2, e2, K4, P2, _⟩ := O2.val; subst e2))
  go_upto_region 6 with (go_at_call 7; refine (eqInt64S_O _ hlen _ _ _ _ _ _ K4 J4).mono ?_; rintro e W5 ⟨rfl, hb⟩; have M5 := M4.call hb; have J5 := J4.later hb; have O5 := O2.later hb; have z5 := hb.size; clear M4 J4 O2 K4 hb)
  go_upto_region 8 with (go_at_call 8; obtain ⟨p5, c5, e5, _, _, B5⟩ := O5.val; have e5' := e5; injection e5 with e5 _ ec; subst e5; refine (mark_any hlen _ _ B5).mono ?_; rintro e W6 ⟨rfl, K6, b, hb1, hgr, hb⟩; have M6 := M5.lower1 hb (by omega) (by exact l3); have J6 := marked J5 (fun a h => by have := P1 a h; omega) (fun a h => (P2 a h).1) hb1 hgr (fun h0 => by rcases B5 with h | ⟨b', _, h, _⟩; exact absurd h h0; exact ⟨_, h⟩); have z6 := hgr.size; clear M5 J5 hb)
  go_upto_region 13 with (go_at_call 9; refine (held_any hlen _ _ K6).mono ?_; rintro e W7 ⟨rfl, hb⟩; have M7 := M6.call hb; have J7 := J6.later hb; have K7 := K6.later hb; clear M6 J6 K6 hb)
  go_upto_region 14 with (first
    | (refine wpList_load_part rfl 23 _ rfl w.heap.size 0 rfl (acells .u64 2 g) _ (M7.at 0 rfl).whole Try.underlying23 rfl (by rw [acells_size]; exact sizeA) ?_)
    | (go_at_call 5; refine (toCells _ _).mono ?_; rintro e W8 ⟨rfl, hb⟩; have M8 := M7.call hb; have J8 := J7.later hb; have K8 := K7.later hb; clear M7 hb J7 K7)
    | (go_at_call 6; refine (implListOf g _).mono ?_; rintro e W9 ⟨v3, rfl, O3, hb⟩; have M9 := M8.call hb; have J9 := J8.later hb; have K9 := K8.later hb; clear M8 hb J8 K8; have O3 : Lst W8.heap.size W9 v3 (hlist g 100) := O3; obtain ⟨p3, c3, e3, L9, P3, _⟩ := O3.val; subst e3))
  go_upto_region 17 with (go_at_call 7; refine (eqInt64S_O _ hlen _ _ _ _ _ _ L9 J9).mono ?_; rintro e W10 ⟨rfl, hb⟩; have M10 := M9.call hb; have K10 := K9.later hb; clear M9 K9 hb)
  go_wp2_with (go_at_call 9; refine (held_any hlen _ _ K10).mono ?_; rintro e W11 ⟨rfl, hb⟩; have M11 := M10.call hb)
  go_ret
  exact ⟨rfl, M11.below⟩

set_option maxRecDepth 100000 in
theorem lifted (os : Os) (started : os.Started) (H : Type) (enc : TypeId × Value → H) :
    ReturnsInHanded {} Try.checked os 3 .any (Rows.fnExactListOfSpec.pre6 enc Try.prog Try.f3 Rows.fnExactListOfRow.domain false) (Rows.fnExactListOfSpec.post enc Try.prog Try.f3 false true false false) := by
  refine returnsInHanded_of_change (C := Try.checked) own started (by kernel_rfl) Try.func3
    (ChangeSpec.witness6 (enc := enc) (C := Try.checked) false ⟨#[], #[.agg (acells .u64 2 (fun _ => 0))], []⟩ 8 (by kernel_rfl) (by kernel_rfl) (by kernel_rfl) (by kernel_rfl)) ?_
  intro W base args ds gs before hval0 hW hcnd _
  have hval : ∀ (j : Nat) t v, Try.f3.params[j]? = some t → args[j]? = some v → Value.okWide Try.prog W .any base t v := hval0
  have hW' := hW
  obtain ⟨p, q, hA0, hV, rfl, hfz, hnd⟩ := hW
  have hA : DataW.TrodAll enc Try.prog W 0 (fun _ => true) true Try.f3.params.toList args.toList ds p := hA0
  rw [Try.params3] at hA hval
  obtain ⟨v0, vs0, d0, ds0, p0, q0, hargs, rfl, rfl, h0, r0⟩ := trodAll_cons hA
  obtain ⟨rfl, rfl, rfl⟩ := trodAll_nil r0
  obtain rfl : args = #[v0] := by cases args; simp_all
  obtain ⟨rfl, rfl⟩ := trodVars_none hV
  have k0 := h0
  have lt0 : ∀ x ∈ p0, x.block < W.heap.size := by obtain ⟨m, hm⟩ := k0; exact DataW.trod_lt m _ _ _ hm
  obtain ⟨f0, rfl, hf0⟩ := open_row (q := .u64) Try.underlying23 Try.underlying22 (by kernel_rfl) (by kernel_rfl) (hval 0 23 v0 rfl rfl) h0
  clear hA0 hval0
  refine (walk f0 hf0 W).mono fun e W' ⟨he, bel⟩ => ?_
  subst he
  exact ⟨_, rfl, _, _, _, [], _, [], hW', trodAll_mk1 (shut_bool Try.underlying4 _), (trodAll_cons_mk (Below.trod laidOut (by kernel_rfl) (of_decide_eq_true (by kernel_rfl)) k0 bel lt0) trodAll_mk0), rfl, bel.frame _, fun h => by cases h⟩

theorem over : Rows.fnExactListOfRow.holds Try.pinned (OpenSpec.ofChange Rows.fnExactListOfSpec) :=
  OpenClaim.holds_of_wide 3 Try.f3 rfl rfl rfl rfl rfl rfl rfl ⟨rfl, rfl, rfl, rfl, rfl⟩ rfl rfl rfl rfl rfl (by kernel_rfl) Try.func3 (by kernel_rfl)
    (of_decide_eq_true (by kernel_rfl)) (by unfold Func.isWrapper; first | (rw [if_pos (by decide +kernel)]; kernel_rfl) | (rw [if_neg (by decide +kernel)]; exact ⟨rfl, rfl⟩))
    (fun os started H enc _ => lifted os started H enc)

theorem proved : Rows.FnExactListOfSaid := over
#print axioms proved
end Go.Proofs.Ytbpbgmchaagiiaa.lawListOf
