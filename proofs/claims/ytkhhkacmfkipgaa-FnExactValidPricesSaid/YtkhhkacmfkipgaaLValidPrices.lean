/-
  ValidPrices: for all prices (valid or not) the program answers as the model does: no condition.
-/
import Derived.Test.YtkhhkacmfkipgaaPri
import Derived.Test.YtkhhkacmfkipgaaFlkIn
import Derived.Test.YtkhhkacmfkipgaaOpen
import Derived.Test.YtkhhkacmfkipgaaRows
import Derived.ChangeOld
import Derived.Below
namespace Go.Proofs.Ytkhhkacmfkipgaa.lawValidPrices
open Go Go.ChangeShapes Go.WideShapes Go.ChangeAt Go.RowKit Go.Deep

theorem own : ownKnob Try.prog.godebug = none := by kernel_rfl
theorem laidOut : laidOutB Try.prog = true := by kernel_rfl
theorem open_row1 {H : Type} {enc : TypeId × Value → H} {P : Program} {w : World} {b0 base : Nat} {r : Reach} {spare : Nat → Bool} {held : Bool} {t : TypeId} {fs : Array Field} {ks : List IntKind} {v : Value} {d : DataW H} {pl : List MemPlace}
    (he : P.underlying t = some (.struct fs)) (hC : P.cellsOf t = ks.length) (hfi : intFields P ks fs = true) (hv : Value.okWide P w r b0 t v) (h : DataW.Trod enc P w base spare held t v d pl) :
    ∃ a : Nat → Int, v = .agg (srow ks (fun _ => a) 0) ∧ WfS ks 1 (fun _ => a) := by
  obtain ⟨hsz, hf⟩ := intFields_of hfi
  obtain ⟨cs, rfl, hs⟩ := okWide_struct he hv
  obtain ⟨fuel, hfu⟩ := h
  obtain ⟨ys, n2, _, _, _, hyl, hfl⟩ := DataW.trod_struct he hfu
  have key : ∀ j, ∃ k : Int, j < ks.length → cs[j]? = some (.int (ks.getD j .i64) k) ∧ (Lit.int (ks.getD j .i64) k).wf = true := fun j => by
    by_cases hj : j < ks.length
    · have hjf : j < fs.size := by omega
      have hfj : fs[j]? = some fs[j] := Array.getElem?_eq_getElem hjf
      obtain ⟨ho, hc1, hu⟩ := hf j _ hfj
      have h1 := hfl j _ hfj
      rw [ho, hc1, List.getElem?_eq_getElem (by omega)] at h1
      obtain ⟨k, e1, e2⟩ := part_int hu h1
      exact ⟨k, fun _ => ⟨by simpa [Value.cells] using e1, e2⟩⟩
    · exact ⟨0, fun h => absurd h hj⟩
  obtain ⟨a, ha⟩ : ∃ a : Nat → Int, ∀ j, j < ks.length → cs[j]? = some (.int (ks.getD j .i64) (a j)) ∧ (Lit.int (ks.getD j .i64) (a j)).wf = true := ⟨fun j => Classical.choose (key j), fun j => Classical.choose_spec (key j)⟩
  refine ⟨a, ?_, fun i _ j hj => (ha j hj).2⟩
  congr 1
  apply Array.ext_getElem?
  intro j
  by_cases hj : j < ks.length
  · rw [(ha j hj).1, srow_get _ _ _ _ hj]; rfl
  · rw [Array.getElem?_eq_none (by omega), Array.getElem?_eq_none (by rw [srow_size]; omega)]
theorem wfP {p : Nat → Int} (h : WfS ksPrices 1 (fun _ => p)) : WfP p :=
  ⟨bounds_i16 (h 0 (by omega) 0 (by decide)), bounds_i16 (h 0 (by omega) 1 (by decide)), bounds_i16 (h 0 (by omega) 2 (by decide))⟩
theorem specValidPrices (p : Nat → Int) (hp : WfP p) (w : World) : Calls Try.prog 4 #[vPrices p] w fun e w' => e = .returned (.bool (pricesOk p)) ∧ Below w.heap.size w w' := by
  go_enter Try.func4, Try.ntmps4
  go_upto_region 1 with (fail)
  obtain ⟨W, hW, M⟩ := open1 w #[.int .i16 (p 0), .int .i16 (p 1), .int .i16 (p 2)] 26
  rw [hW]; clear hW
  go_wp2_with (first
    | (go_at_call 7; refine (l04Prices_any p hp _).mono ?_; rintro e W2 ⟨rfl, hb⟩; have M2 := M.call hb)
    | (refine wpList_load_part rfl 26 _ rfl w.heap.size 0 rfl #[.int .i16 (p 0), .int .i16 (p 1), .int .i16 (p 2)] _ (M.at 0 rfl).whole Try.underlying26 rfl (by kernel_rfl) ?_))
  go_ret
  exact ⟨rfl, M2.below⟩
set_option maxRecDepth 100000 in
set_option maxHeartbeats 1000000 in
theorem walk (p : Nat → Int) (hp0 : WfS ksPrices 1 (fun _ => p)) (w : World) : Calls Try.prog 3 #[vPrices p] w fun e w' => e = .returned (.bool true) ∧ Below w.heap.size w w' := by
  have hp : WfP p := wfP hp0
  go_enter Try.func3, Try.ntmps3
  go_upto_region 1 with (fail)
  obtain ⟨W, hW, M⟩ := open1 w #[.int .i16 (p 0), .int .i16 (p 1), .int .i16 (p 2)] 24
  rw [hW]; clear hW
  go_upto_region 2 with (first
    | (go_at_call 5; refine (toPrices_any p _).mono ?_; rintro e W1 ⟨rfl, hb⟩; have M1 := M.call hb; clear M hb)
    | (go_at_call 4; refine (specValidPrices p hp _).mono ?_; rintro e W2 ⟨rfl, hb⟩; have M2 := M1.call hb; clear M1 hb)
    | (refine wpList_load_part rfl 24 _ rfl w.heap.size 0 rfl #[.int .i16 (p 0), .int .i16 (p 1), .int .i16 (p 2)] _ (M.at 0 rfl).whole Try.underlying24 rfl (by kernel_rfl) ?_))
  go_wp2_with (first
    | (go_at_call 5; refine (toPrices_any p _).mono ?_; rintro e W3 ⟨rfl, hb⟩; have M3 := M2.call hb; clear M2 hb)
    | (go_at_call 6; refine (validPrices_any p hp _).mono ?_; rintro e W4 ⟨rfl, hb⟩; have M4 := M3.call hb; clear M3 hb)
    | (refine wpList_load_part rfl 24 _ rfl w.heap.size 0 rfl #[.int .i16 (p 0), .int .i16 (p 1), .int .i16 (p 2)] _ (M2.at 0 rfl).whole Try.underlying24 rfl (by kernel_rfl) ?_))
  go_ret
  exact ⟨rfl, M4.below⟩

set_option maxRecDepth 100000 in
theorem lifted (os : Os) (started : os.Started) (H : Type) (enc : TypeId × Value → H) :
    ReturnsInHanded {} Try.checked os 3 .any (Rows.fnExactValidPricesSpec.pre6 enc Try.prog Try.f3 Rows.fnExactValidPricesRow.domain false) (Rows.fnExactValidPricesSpec.post enc Try.prog Try.f3 false true false false) := by
  refine returnsInHanded_of_change (C := Try.checked) own started (by kernel_rfl) Try.func3
    (ChangeSpec.witness6 (enc := enc) (C := Try.checked) false ⟨#[], #[vPrices (fun _ => 0)], []⟩ 8 (by kernel_rfl) (by kernel_rfl) (by kernel_rfl) (by kernel_rfl)) ?_
  intro W base args ds gs before hval0 hW hcnd _
  have hval : ∀ (j : Nat) t v, Try.f3.params[j]? = some t → args[j]? = some v → Value.okWide Try.prog W .any base t v := hval0
  have hW' := hW
  obtain ⟨p, q, hA0, hV, rfl, hfz, hnd⟩ := hW
  have hA : DataW.TrodAll enc Try.prog W 0 (fun _ => true) true Try.f3.params.toList args.toList ds p := hA0
  rw [Try.params3] at hA hval
  obtain ⟨v0, vs0, d0, ds0, p0, q0, hargs, rfl, rfl, h0, r0⟩ := trodAll_cons hA
  obtain ⟨rfl, rfl, rfl⟩ := trodAll_nil r0
  obtain rfl : args = #[v0] := by cases args; simp_all
  obtain ⟨rfl, rfl⟩ := trodVars_none hV
  have k0 := h0
  have lt0 : ∀ x ∈ p0, x.block < W.heap.size := by obtain ⟨m, hm⟩ := k0; exact DataW.trod_lt m _ _ _ hm
  obtain ⟨a0, rfl, ha0⟩ := open_row1 (ks := ksPrices) (fs := Try.prog.fieldsOf 24) (by kernel_rfl) (by kernel_rfl) (by kernel_rfl) (hval 0 24 v0 rfl rfl) h0
  clear hA0 hval0
  refine (walk a0 ha0 W).mono fun e W' ⟨he, bel⟩ => ?_
  subst he
  exact ⟨_, rfl, _, _, _, [], _, [], hW', trodAll_mk1 (shut_bool Try.underlying4 _), (trodAll_cons_mk (Below.trod laidOut (by kernel_rfl) (of_decide_eq_true (by kernel_rfl)) k0 bel lt0) trodAll_mk0), rfl, bel.frame _, fun h => by cases h⟩

theorem over : Rows.fnExactValidPricesRow.holds Try.pinned (OpenSpec.ofChange Rows.fnExactValidPricesSpec) :=
  OpenClaim.holds_of_wide 3 Try.f3 rfl rfl rfl rfl rfl rfl rfl ⟨rfl, rfl, rfl, rfl, rfl⟩ rfl rfl rfl rfl rfl (by kernel_rfl) Try.func3 (by kernel_rfl)
    (of_decide_eq_true (by kernel_rfl)) (by unfold Func.isWrapper; first | (rw [if_pos (by decide +kernel)]; kernel_rfl) | (rw [if_neg (by decide +kernel)]; exact ⟨rfl, rfl⟩))
    (fun os started H enc _ => lifted os started H enc)

theorem proved : Rows.FnExactValidPricesSaid := over
#print axioms proved
end Go.Proofs.Ytkhhkacmfkipgaa.lawValidPrices
