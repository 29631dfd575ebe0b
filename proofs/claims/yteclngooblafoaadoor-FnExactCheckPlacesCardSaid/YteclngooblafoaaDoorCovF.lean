/-
  What a scarecrow covers from a cell, and which cells cover one: the program's.
-/
import Derived.Test.YteclngooblafoaaDoorCov
import Derived.Test.YteclngooblafoaaDoorCovC
import Derived.Test.YteclngooblafoaaDoorCoreB
import Derived.Test.YteclngooblafoaaDoorRelA
namespace Go.Proofs.YteclngooblafoaaDoor
open Go Go.RowKit Go.Shelf
attribute [local go_sem] Oper.semAt_some

theorem wantSet_congr {f : Fd} {q q' : Nat → Bool} : ∀ n, (∀ k, k < n → q k = q' k) → wantSet f q n = wantSet f q' n
  | 0, _ => rfl
  | n + 1, h => by rw [wantSet, wantSet, wantSet_congr n (fun k hk => h k (by omega)), h n (by omega)]
/-- A new scarecrow's row. -/
def crF (p x : Int) : Nat → Nat → Int := fun _ j => if j = 0 then p else if j = 1 then x else 0
theorem cr_shape {p x : Int} (hp : 0 ≤ p ∧ p ≤ 99) (hx : 1 ≤ x ∧ x ≤ 1000) (i : Nat) : shapeOk (crF p x i) = true := by
  simp only [shapeOk, Bool.and_eq_true, inB_iff]
  exact ⟨⟨hp, hx⟩, by show (0 : Int) ≤ 0 ∧ (0 : Int) ≤ 30; decide⟩
theorem cr_wf {p x : Int} (hp : 0 ≤ p ∧ p ≤ 99) (hx : 1 ≤ x ∧ x ≤ 1000) (i : Nat) : WfT (crF p x i) :=
  ⟨by show -32768 ≤ p ∧ p ≤ 32767; omega, by show -32768 ≤ x ∧ x ≤ 32767; omega, by show -128 ≤ (0 : Int) ∧ (0 : Int) ≤ 127; decide⟩
theorem cr_cells (p x : Int) : scells ksScarecrow 1 (crF p x) = #[.int .i16 p, .int .i16 x, .int .i8 0] := rfl
theorem cr_fear {p x : Int} (hp : 0 ≤ p ∧ p ≤ 99) (hx : 1 ≤ x ∧ x ≤ 1000) {c : Int} (hc : 0 ≤ c ∧ c ≤ 99) : fearTo (crF p x) c 1 = x / (1 + sq p c) := by
  have h := fear_in (cr_shape hp hx 0) hc
  have e : fearA (crF p x 0) c = x / (1 + sq p c) := by
    unfold fearA cntA
    show x / 2 ^ ((0 : Int) / 3).toNat / (1 + sq p c) = _
    rw [show ((0 : Int) / 3).toNat = 0 by decide, Int.pow_zero, Int.ediv_one]
  show max 0 (fearA (crF p x 0) c) = _
  rw [e] at h ⊢
  omega
theorem cr_set (f : Fd) (p : Nat) (hp : p < 100) (x y : Int) (hx : 1 ≤ x ∧ x ≤ 1000) : wantSet f (safeQ f (crF (p : Int) x) 1 y) 100 = cvS f p x y := by
  refine wantSet_congr 100 (fun k hk => ?_)
  unfold safeQ cvQ
  rw [cr_fear ⟨by omega, by omega⟩ hx ⟨by omega, by omega⟩]
theorem newScareC (c x : Int) (hc : 0 ≤ c ∧ c ≤ 99) (hx : 1 ≤ x ∧ x ≤ 1000) (w : World) :
    Calls Tryd.prog 72 #[.int .i64 c, .int .i64 x] w fun e w' => e = .returned (.agg #[.int .i16 c, .int .i16 x, .int .i8 0]) ∧ Below w.heap.size w w' := by
  obtain ⟨h1, h2⟩ := hc
  obtain ⟨h3, h4⟩ := hx
  have g1 : IntKind.i16.wrap c = c := IntWalk.i16_in _ (by omega)
  have g2 : IntKind.i16.wrap x = x := IntWalk.i16_in _ (by omega)
  go_enter Tryd.func72, Tryd.ntmps72
  go_upto_region 1 with (fail)
  obtain ⟨W, hW, M⟩ := open1 w #[.int .i16 0, .int .i16 0, .int .i8 0] 71
  rw [hW]; clear hW
  have b0 := (M.at 0 rfl).cell (i := 0) (v := .int .i16 0) rfl
  have b1 := (M.at 0 rfl).cell (i := 1) (v := .int .i16 0) rfl
  have b2 := (M.at 0 rfl).cell (i := 2) (v := .int .i8 0) rfl
  have f0 := (M.at 0 rfl).free 0
  have f1 := (M.at 0 rfl).free 1
  have f2 := (M.at 0 rfl).free 2
  go_wp2_with fail
  have M3 := M.cells 0 0 [.int .i16 c, .int .i16 x, .int .i8 0] rfl _ ((((M.at 0 rfl).set 0 _).set 1 _).set 2 _)
  exact bodyPost_ret (results_cell_row rfl _ _ w.heap.size 71 _ _ _ rfl (M3.at 0 rfl) Tryd.underlying71 rfl (by kernel_rfl)) rfl ⟨rfl, M3.below⟩
set_option maxRecDepth 100000 in
set_option maxHeartbeats 4000000 in
theorem coverFrom_any (f : Fd) (hf : f.Wf) (hok : okF f = true) (p : Nat) (hp : p < 100) (hc : isCell f (p : Int) = true) (hK : f.K p ≠ 3) (x y : Int) (hx0 : 1 ≤ x ∧ x ≤ 1000) (A : Nat → Addr) (w : World) (S0 : Sents w A) :
    Calls Tryd.prog 54 #[.agg (fcells f), .int .i64 (p : Int), .int .i64 x, .int .i64 y] w fun e w' => e = .returned (.agg (acells .u64 2 (cvS f p x y))) ∧ Below w.heap.size w w' := by
  have S : Hid (Sents w A) := Lib.hid S0
  clear S0
  have hif := isIfaceErr
  have hp1 : 0 ≤ (p : Int) := by omega
  have hp2 : (p : Int) ≤ 99 := by omega
  have HE : Hid (placeErr A f (p : Int) = .nilIface) := Lib.hid (by unfold placeErr; rw [hc, if_pos rfl, Int.toNat_natCast, if_neg hK])
  have hx := Lib.hid hx0
  clear hx0 hc hK
  obtain ⟨G, hG⟩ : ∃ G, cvS f p x y = G := ⟨_, rfl⟩
  rw [hG]
  have HG : Hid (wantSet f (safeQ f (crF (p : Int) x) 1 y) 100 = G) := Lib.hid (by rw [← hG]; exact cr_set f p hp x y hx.out)
  clear hG
  go_enter Tryd.func54, Tryd.ntmps54
  go_upto_region 1 with (fail)
  rw [zero2]
  obtain ⟨W, hW, M⟩ := open2 w (fcells f) 33 (acells .u64 2 (fun _ => 0)) 35
  rw [hW]; clear hW
  go_upto_region 4 with (first
    | (refine wpList_load_part rfl 33 _ rfl w.heap.size 0 rfl (fcells f) _ (M.at 0 rfl).whole Tryd.underlying33 rfl (by rw [fcells_size]; exact sizeFd) ?_)
    | (go_at_call 71; refine (checkPlace_any f hf hok (p : Int) (by omega) (by omega) A _ (S.out.later M.below).two).mono ?_; rintro e W2 ⟨rfl, hb⟩; rw [HE.out]; have M2 := M.call hb; clear M hb))
  refine wp_region_rel_tail 7 (DL [dV (.agg (fcells f)), dV (.int .i64 (p : Int)), dV (.int .i64 x), dV (.agg #[.int .i16 (p : Int), .int .i16 x, .int .i8 0]), dP (fun v lo _ w9 => v = .slice (some ⟨lo, 0, none⟩) 1 1 ∧ Blk w9 lo (scells ksScarecrow 1 (crF (p : Int) x)) 71), dV (.int .i64 y), dV (.agg (acells .u64 2 G))]) (fun w' => Mem w w' [⟨w.heap.size, fcells f, 33⟩, ⟨w.heap.size + 1, acells .u64 2 (fun _ => 0), 35⟩]) (by kernel_rfl) (by kernel_rfl) grows_mem
    (stays_DL (fun d hd => by
      simp only [List.mem_cons, List.mem_nil_iff, or_false] at hd
      rcases hd with rfl | rfl | rfl | rfl | rfl | rfl | rfl <;> first | exact stay_V | exact stay_P)) M2.drew ?_
  refine rel_load 33 _ rfl (w.heap.size) (0) rfl (fcells f) _ rfl rfl (fun w' hw' => (hw'.at 0 rfl).whole) Tryd.underlying33 rfl (by rw [fcells_size]; exact sizeFd) (fun _ => ?_)
  simp only [Act.put, List.setIfInBounds_toArray, List.set_cons_zero, List.set_cons_succ]
  refine rel_val _ rfl rfl (fun _ _ => rfl) (fun _ => ?_)
  simp only [Act.put, List.setIfInBounds_toArray, List.set_cons_zero, List.set_cons_succ]
  refine rel_val _ rfl rfl (fun _ _ => rfl) (fun _ => ?_)
  simp only [Act.put, List.setIfInBounds_toArray, List.set_cons_zero, List.set_cons_succ]
  refine rel_call (.agg #[.int .i16 (p : Int), .int .i16 x, .int .i8 0]) 72 #[.int .i64 (p : Int), .int .i64 x] rfl rfl rfl rfl (enters_of Tryd.func72 (by kernel_rfl) rfl) (fun w' _ => newScareC (p : Int) x ⟨hp1, hp2⟩ hx.out w') (fun _ => ?_)
  simp only [Act.put, List.setIfInBounds_toArray, List.set_cons_zero, List.set_cons_succ]
  refine rel_runP _ rfl rfl (fun w9 _ => ⟨.slice (some ⟨w9.heap.size, 0, none⟩) 1 1, w9.alloc (.cells (scells ksScarecrow 1 (crF (p : Int) x)) 71), by rw [cr_cells]; simp [execOp, Act.eval, go_sem], (Below.refl _ _).alloc (Nat.le_refl _) _, fun w8 hb8 => ⟨rfl, (Blk.new w9 (scells ksScarecrow 1 (crF (p : Int) x)) 71).later hb8⟩⟩) (fun v4 lo4 hi4 _ ⟨_, _, hv4⟩ => ?_)
  obtain ⟨rfl, _⟩ := hv4
  simp only [Act.put, List.setIfInBounds_toArray, List.set_cons_zero, List.set_cons_succ]
  refine rel_val _ rfl rfl (fun _ _ => rfl) (fun _ => ?_)
  simp only [Act.put, List.setIfInBounds_toArray, List.set_cons_zero, List.set_cons_succ]
  refine rel_callK 4 (.agg (acells .u64 2 G)) 37 #[.agg (fcells f), .slice (some ⟨lo4, 0, none⟩) 1 1, .int .i64 y] rfl rfl rfl rfl (enters_of Tryd.func37 (by kernel_rfl) rfl) rfl rfl rfl rfl (fun w' hw' hx9 => by
    obtain ⟨_, B9⟩ := hx9.1
    refine (safeCells_any f hf hok 1 (by omega) (crF (p : Int) x) (fun i _ => cr_wf ⟨hp1, hp2⟩ hx.out i) (fun i _ => cr_shape ⟨hp1, hp2⟩ hx.out i) y lo4 1 w' B9.inS).mono (fun e w2 h => ?_)
    rw [HG.out] at h
    exact h) (fun _ => ?_)
  simp only [Act.put, List.setIfInBounds_toArray, List.set_cons_zero, List.set_cons_succ]
  refine rel_nil (fun W6 inv => ?_)
  have M3 := inv.cls
  clear inv M2
  change wpList _ _ _ (_ :: []) _ _
  go_wp2_with (refine wpList_store_row rfl 35 _ _ rfl (w.heap.size + 1) (acells .u64 2 (G)) rfl rfl 35 _ (M3.at 1 rfl) (by rw [acells_size]; exact sizeC) (by simp only [acells_size]) (acells_one _ _ _) ?_)
  have M4 := M3.row 1 rfl (acells .u64 2 G)
  exact bodyPost_ret (results_cell_row rfl _ _ (w.heap.size + 1) 35 _ _ _ rfl (M4.at 1 rfl) Tryd.underlying35 rfl (by rw [acells_size]; exact sizeC)) rfl ⟨rfl, M4.below⟩
end Go.Proofs.YteclngooblafoaaDoor
