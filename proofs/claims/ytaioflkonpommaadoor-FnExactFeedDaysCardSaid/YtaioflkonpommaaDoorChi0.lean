/-
  Which cell a flock chooses: the program's.
-/
import Derived.Test.YtaioflkonpommaaDoorChC
import Derived.Test.YtaioflkonpommaaDoorChT
namespace Go.Proofs.YtaioflkonpommaaDoor
open Go Go.RowKit
attribute [local go_sem] Oper.semAt_some

theorem lessR_iff {p q : Nat → Int} : lessR p q = true ↔ p 0 < q 0 ∨ p 0 = q 0 ∧ (p 1 < q 1 ∨ p 1 = q 1 ∧ p 2 < q 2) := by
  unfold lessR
  simp only [Bool.or_eq_true, Bool.and_eq_true, decide_eq_true_eq, beq_iff_eq]
theorem cmp3_cases (x y : Int) : (x < y ∧ cmp3 x y = -1) ∨ (y < x ∧ cmp3 x y = 1) ∨ (x = y ∧ cmp3 x y = 0) := by
  unfold cmp3
  by_cases h : x < y
  · exact .inl ⟨h, by rw [if_pos h]⟩
  · by_cases h2 : y < x
    · exact .inr (.inl ⟨h2, by rw [if_neg h, if_pos h2]⟩)
    · exact .inr (.inr ⟨by omega, by rw [if_neg h, if_neg h2]⟩)
theorem or3_neg (x y z : Int) : or3 x y z < 0 ↔ x < 0 ∨ x = 0 ∧ (y < 0 ∨ y = 0 ∧ z < 0) := by
  unfold or3
  split
  · omega
  · split <;> omega
theorem or2_neg (x y : Int) : or2 x y < 0 ↔ x < 0 ∨ x = 0 ∧ y < 0 := by
  unfold or2
  split <;> omega
theorem less_S (p q : Nat → Int) (h : q 0 < p 0) : cvS p q < 0 ↔ lessR (rkT 0 p) (rkT 0 q) = true := by
  rw [lessR_iff]
  show cvS p q < 0 ↔ -(p 1) < -(q 1) ∨ -(p 1) = -(q 1) ∧ (p 2 < q 2 ∨ p 2 = q 2 ∧ (0 : Int) < 0)
  unfold cvS
  rw [or3_neg]
  have h1 := cmp3_cases (q 1) (p 1)
  have h2 := cmp3_cases (p 2) (q 2)
  have h3 := cmp3_cases (p 0) (q 0)
  omega
theorem less_N (p q : Nat → Int) (h : q 0 < p 0) : cvN p q < 0 ↔ lessR (rkT 1 p) (rkT 1 q) = true := by
  rw [lessR_iff]
  show cvN p q < 0 ↔ p 2 < q 2 ∨ p 2 = q 2 ∧ (-(p 1) < -(q 1) ∨ -(p 1) = -(q 1) ∧ (0 : Int) < 0)
  unfold cvN
  rw [or3_neg]
  have h1 := cmp3_cases (q 1) (p 1)
  have h2 := cmp3_cases (p 2) (q 2)
  have h3 := cmp3_cases (p 0) (q 0)
  omega
theorem less_C (p q : Nat → Int) (h : q 0 < p 0) : cvC p q < 0 ↔ lessR (rkT 2 p) (rkT 2 q) = true := by
  rw [lessR_iff]
  show cvC p q < 0 ↔ p 3 < q 3 ∨ p 3 = q 3 ∧ (-(p 1) < -(q 1) ∨ -(p 1) = -(q 1) ∧ p 2 < q 2)
  unfold cvC
  rw [or2_neg]
  unfold cvS
  rw [or3_neg]
  have h0 := cmp3_cases (p 3) (q 3)
  have h1 := cmp3_cases (q 1) (p 1)
  have h2 := cmp3_cases (p 2) (q 2)
  have h3 := cmp3_cases (p 0) (q 0)
  omega
theorem bst_same {cv : (Nat → Int) → (Nat → Int) → Int} {t : Int} (hl : ∀ p q, q 0 < p 0 → (cv p q < 0 ↔ lessR (rkT t p) (rkT t q) = true)) {F : Nat → Nat → Int} {n : Nat} (hr : ∀ i j, i < j → j < n → F i 0 < F j 0) : ∀ k, k < n → bstC cv F k = bstM t F k ∧ ∃ j, j ≤ k ∧ bstM t F k = F j
  | 0, _ => ⟨rfl, 0, Nat.le_refl _, rfl⟩
  | k + 1, hk => by
    obtain ⟨e, j, hj, ej⟩ := bst_same hl hr k (by omega)
    have hlt : bstM t F k 0 < F (k + 1) 0 := by rw [ej]; exact hr j (k + 1) (by omega) hk
    have hiff := hl (F (k + 1)) (bstM t F k) hlt
    by_cases h : lessR (rkT t (F (k + 1))) (rkT t (bstM t F k)) = true
    · refine ⟨?_, k + 1, Nat.le_refl _, by rw [bstM, if_pos h]⟩
      rw [bstM, if_pos h, bstC, e, if_pos (hiff.2 h)]
    · refine ⟨?_, j, by omega, by rw [bstM, if_neg h]; exact ej⟩
      rw [bstM, if_neg h, bstC, e, if_neg (fun h9 => h (hiff.1 h9))]
theorem meals_rise (f : Fd) (g a : Nat → Int) : ∀ n, n ≤ 100 → ∀ i j, i < j → j < (mealsR f g a n).length → rowsF (mealsR f g a n) i 0 < rowsF (mealsR f g a n) j 0
  | 0, _, i, j, _, hj => absurd hj (by simp [mealsR])
  | n + 1, hn, i, j, hij, hj => by
    cases h : (isCell f (n : Int) && wldQ f g a n) with
    | true =>
      rw [mealsR_yes h] at hj ⊢
      by_cases hl : j < (mealsR f g a n).length
      · rw [rowsF_old hl, rowsF_old (show i < (mealsR f g a n).length by omega)]
        exact meals_rise f g a n (by omega) i j hij hl
      · obtain rfl : j = (mealsR f g a n).length := by simp at hj; omega
        obtain ⟨c, hc, _, h2⟩ := meals_in f g a n (by omega) i hij
        rw [rowsF_at, rowsF_old hij, h2 0]
        show (c : Int) < (n : Int)
        omega
    | false =>
      rw [mealsR_no h] at hj ⊢
      exact meals_rise f g a n (by omega) i j hij hj
theorem run_store_fnM {P : Program} (w : World) (a : Addr) (m : Mode) (g : Fn) (ts cs : Array Value) : (store a (.func g ts cs) m).run P w = stored P w a (.func g ts cs) m := run_store P w a _ m rfl
attribute [local go_sem] run_store_fnM in
set_option maxRecDepth 100000 in
theorem orders_any (w : World) : Calls Tryd.prog 76 #[] w fun e w' => e = .returned (.agg #[.func (.func 92) #[] #[], .func (.func 93) #[] #[], .func (.func 94) #[] #[]]) ∧ Below w.heap.size w w' := by
  go_enter Tryd.func76, Tryd.ntmps76
  go_upto_region 1 with (fail)
  obtain ⟨W, hW, M⟩ := open1 w #[.nilFunc, .nilFunc, .nilFunc] 123
  rw [hW]; clear hW
  have d0 := (M.at 0 rfl).cell (i := 0) (v := .nilFunc) rfl
  have d1 := (M.at 0 rfl).cell (i := 1) (v := .nilFunc) rfl
  have d2 := (M.at 0 rfl).cell (i := 2) (v := .nilFunc) rfl
  have e0 := (M.at 0 rfl).free 0
  have e1 := (M.at 0 rfl).free 1
  have e2 := (M.at 0 rfl).free 2
  go_wp2
  have M2 : Mem w _ [⟨w.heap.size, #[.func (.func 92) #[] #[], .func (.func 93) #[] #[], .func (.func 94) #[] #[]], 123⟩] := ((M.set 0 0 (.func (.func 92) #[] #[]) rfl _ rfl).set 0 1 (.func (.func 93) #[] #[]) rfl _ rfl).set 0 2 (.func (.func 94) #[] #[]) rfl _ rfl
  exact bodyPost_ret (results_cell_row rfl _ _ w.heap.size 123 _ _ _ rfl (M2.at 0 rfl) Tryd.underlying123 rfl (by kernel_rfl)) rfl ⟨rfl, M2.below⟩
theorem load_i8M (b off : Nat) (n : Int) (w : World) (c : w.cell? ⟨b, off, none⟩ = some (.int .i8 n)) : (Instr.loadAt 22 (.pointer (some ⟨b, off, none⟩))).run Tryd.prog w = .ok (.int .i8 n) w := by
  simp [go_sem, c]
theorem idxF0 (w : World) : (Instr.index 123 (.agg #[.func (.func 92) #[] #[], .func (.func 93) #[] #[], .func (.func 94) #[] #[]]) (.int .i8 0)).run Tryd.prog w = .ok (.func (.func 92) #[] #[]) w := by kernel_rfl
theorem idxF1 (w : World) : (Instr.index 123 (.agg #[.func (.func 92) #[] #[], .func (.func 93) #[] #[], .func (.func 94) #[] #[]]) (.int .i8 1)).run Tryd.prog w = .ok (.func (.func 93) #[] #[]) w := by kernel_rfl
theorem idxF2 (w : World) : (Instr.index 123 (.agg #[.func (.func 92) #[] #[], .func (.func 93) #[] #[], .func (.func 94) #[] #[]]) (.int .i8 2)).run Tryd.prog w = .ok (.func (.func 94) #[] #[]) w := by kernel_rfl
theorem fieldM0 (x s q e : Int) (w : World) : (Instr.field 120 (.agg #[.int .i64 x, .int .i64 s, .int .i64 q, .int .i64 e]) 0).run Tryd.prog w = .ok (.int .i64 x) w := by kernel_rfl
def choErr (A : Nat → Addr) (R : List (Nat → Int)) : Value := if R.length = 0 then errVal (A 6) else .nilIface
def choVal (t : Int) (R : List (Nat → Int)) : Int := if R.length = 0 then 0 else bL t R 0
set_option maxRecDepth 100000 in
set_option maxHeartbeats 8000000 in
theorem choiceOf_any (f : Fd) (hok : okF f = true) (g : Nat → Int) (hg : Wf16 g) (a : Nat → Int) (ha : WfR a) (h0 : 0 ≤ a 0 ∧ a 0 ≤ 99) (h5 : 0 ≤ a 5 ∧ a 5 ≤ 2) (A : Nat → Addr) (w : World) (S0 : Sents w A) :
    Calls Tryd.prog 46 #[.agg (fcells f), .agg (acells .i16 100 g), vFlock a] w fun e w' => e = .returned (.tuple #[.int .i64 (choVal (a 5) (mealsR f g a 100)), choErr A (mealsR f g a 100)]) ∧ Below w.heap.size w w' := by
  have S : Hid (Sents w A) := Lib.hid S0
  clear S0
  have HMF := Lib.hid (fun w => mealsFor_any f hok g hg a ha h0 w)
  have HRI := Lib.hid (meals_rise f g a 100 (Nat.le_refl _))
  have hle := mealsR_le f g a 100
  obtain ⟨R, hR⟩ : ∃ R, mealsR f g a 100 = R := ⟨_, rfl⟩
  rw [hR] at HMF HRI hle ⊢
  clear hok hg ha hR h0
  by_cases hlen : R.length = 0
  · have hv : choVal (a 5) R = 0 := by unfold choVal; rw [if_pos hlen]
    have he : choErr A R = errVal (A 6) := by unfold choErr; rw [if_pos hlen]
    obtain rfl := List.length_eq_zero_iff.1 hlen
    rw [hv, he]
    clear hv he hlen
    go_enter Tryd.func46, Tryd.ntmps46
    go_upto_region 1 with (fail)
    obtain ⟨W, hW, M⟩ := open3 w (fcells f) 30 (acells .i16 100 g) 36 (flc a) 38
    unfold flc at hW
    rw [hW]; clear hW
    go_upto_region 3 with (first
      | (refine wpList_load_part rfl 30 _ rfl w.heap.size 0 rfl (fcells f) _ (M.at 0 rfl).whole Tryd.underlying30 rfl (by rw [fcells_size]; exact sizeFd) ?_)
      | (refine wpList_load_part rfl 36 _ rfl (w.heap.size + 1) 0 rfl (acells .i16 100 g) _ (M.at 1 rfl).whole Tryd.underlying36 rfl (by rw [acells_size]; exact sizeE) ?_)
      | (refine wpList_load_part rfl 38 _ rfl (w.heap.size + 1 + 1) 0 rfl (flc a) _ (M.at 2 rfl).whole Tryd.underlying38 rfl (by kernel_rfl) ?_)
      | (go_at_call 74; refine (HMF.out _).mono ?_; rintro e W2 ⟨p, c, rfl, hS, hb⟩; have M2 := M.call hb; clear hb; have hv6 := (S.out.later M2.below).v6))
    go_quiet (fail)
    go_wp2_with fail
    go_ret2
    exact ⟨rfl, below_drewN _ M2.below⟩
  · have hv : choVal (a 5) R = bL (a 5) R 0 := by unfold choVal; rw [if_neg hlen]
    have he : choErr A R = .nilIface := by unfold choErr; rw [if_neg hlen]
    rw [hv, he]
    have hlp : 0 < R.length := by omega
    have hlz : ¬ (R.length : Int) = 0 := by omega
    have hlb : ((R.length : Int) == 0) = false := by simpa using hlz
    have HB0 : Hid (a 5 = 0 → bstC cvS (rowsF R) (R.length - 1) = bL (a 5) R) := Lib.hid (fun h => by rw [h]; exact (bst_same less_S (HRI.out) _ (by omega)).1)
    have HB1 : Hid (a 5 = 1 → bstC cvN (rowsF R) (R.length - 1) = bL (a 5) R) := Lib.hid (fun h => by rw [h]; exact (bst_same less_N (HRI.out) _ (by omega)).1)
    have HB2 : Hid (a 5 = 2 → bstC cvC (rowsF R) (R.length - 1) = bL (a 5) R) := Lib.hid (fun h => by rw [h]; exact (bst_same less_C (HRI.out) _ (by omega)).1)
    obtain ⟨y, hy⟩ : ∃ y, bL (a 5) R = y := ⟨_, rfl⟩
    rw [hy] at HB0 HB1 HB2 ⊢
    clear hv he hlen hy
    have H5 := Lib.hid h5
    clear h5
    have ot := Lib.hid orders_any
    go_enter Tryd.func46, Tryd.ntmps46
    go_upto_region 1 with (fail)
    obtain ⟨W, hW, M⟩ := open3 w (fcells f) 30 (acells .i16 100 g) 36 (flc a) 38
    unfold flc at hW
    rw [hW]; clear hW
    go_upto_region 4 with (first
      | (refine wpList_load_part rfl 30 _ rfl w.heap.size 0 rfl (fcells f) _ (M.at 0 rfl).whole Tryd.underlying30 rfl (by rw [fcells_size]; exact sizeFd) ?_)
      | (refine wpList_load_part rfl 36 _ rfl (w.heap.size + 1) 0 rfl (acells .i16 100 g) _ (M.at 1 rfl).whole Tryd.underlying36 rfl (by rw [acells_size]; exact sizeE) ?_)
      | (refine wpList_load_part rfl 38 _ rfl (w.heap.size + 1 + 1) 0 rfl (flc a) _ (M.at 2 rfl).whole Tryd.underlying38 rfl (by kernel_rfl) ?_)
      | (go_at_call 74; refine (HMF.out _).mono ?_; rintro e W2 ⟨p, c, rfl, hS, hb⟩; have M2 := M.call hb; clear hb))
    obtain ⟨b, rfl, hlb9, _⟩ := so_row hS hlp
    have HS := Lib.hid hS
    have HLE := Lib.hid hle
    have HLP := Lib.hid hlp
    clear hS M
    rcases (show a 5 = 0 ∨ a 5 = 1 ∨ a 5 = 2 by have := H5.out; omega) with h | h | h
    · have he := Lib.hid (HB0.out h)
      have c5 : Hid (W2.cell? ⟨w.heap.size + 1 + 1, 5, none⟩ = some (.int .i8 0)) := Lib.hid (by rw [← h]; exact (M2.at 2 rfl).cell (i := 5) rfl)
      have hix := idxF0
      clear h HB0 HB1 HB2
      refine wp_region_rel (DL [dV (.slice (some ⟨b, 0, none⟩) R.length c), dV (.agg #[.func (.func 92) #[] #[], .func (.func 93) #[] #[], .func (.func 94) #[] #[]]), dV (.pointer (some ⟨w.heap.size + 1 + 1, 5, none⟩)), dV (.int .i8 0), dV (.func (.func 92) #[] #[]), dV (.agg (mrow (bstC cvS (rowsF R) (R.length - 1)))), dV (.int .i64 (bstC cvS (rowsF R) (R.length - 1) 0)), dV (.int .i64 (bstC cvS (rowsF R) (R.length - 1) 0)), dV (.nilIface)]) (fun w' => (Mem w w' [⟨w.heap.size, fcells f, 30⟩, ⟨w.heap.size + 1, acells .i16 100 g, 36⟩, ⟨w.heap.size + 1 + 1, flc a, 38⟩]) ∧ Below W2.heap.size W2 w') (by kernel_rfl) (by kernel_rfl) grows_memB
        (stays_DL (fun d hd => by
          simp only [List.mem_cons, List.mem_nil_iff, or_false] at hd
          rcases hd with rfl | rfl | rfl | rfl | rfl | rfl | rfl | rfl | rfl <;> exact stay_V)) ⟨M2.drew, (Below.refl _ _).drew⟩ ?_
      refine rel_val _ rfl rfl (fun _ _ => rfl) (fun _ => ?_)
      simp only [Act.put, List.setIfInBounds_toArray, List.set_cons_zero, List.set_cons_succ]
      refine rel_call (.agg #[.func (.func 92) #[] #[], .func (.func 93) #[] #[], .func (.func 94) #[] #[]]) 76 #[] rfl rfl rfl rfl (enters_of Tryd.func76 (by kernel_rfl) rfl) (fun w' _ => ot.out w') (fun _ => ?_)
      simp only [Act.put, List.setIfInBounds_toArray, List.set_cons_zero, List.set_cons_succ]
      refine rel_val (.pointer (some ⟨w.heap.size + 1 + 1, 5, none⟩)) rfl rfl (fun _ _ => by simp [execOp, Act.eval, go_sem]) (fun _ => ?_)
      simp only [Act.put, List.setIfInBounds_toArray, List.set_cons_zero, List.set_cons_succ]
      refine rel_cell 22 _ rfl (w.heap.size + 1 + 1) (5) rfl (.int .i8 0) rfl rfl (fun w' c => load_i8M _ _ _ w' c) (fun w' hw' => cell_later c5.out hw'.2) (fun _ => ?_)
      simp only [Act.put, List.setIfInBounds_toArray, List.set_cons_zero, List.set_cons_succ]
      refine rel_val (.func (.func 92) #[] #[]) rfl rfl (fun w' _ => by simp [execOp, Act.eval, hix w']) (fun _ => ?_)
      simp only [Act.put, List.setIfInBounds_toArray, List.set_cons_zero, List.set_cons_succ]
      refine rel_call (.agg (mrow (bstC cvS (rowsF R) (R.length - 1)))) 75 #[.slice (some ⟨b, 0, none⟩) R.length c, .func (.func 92) #[] #[]] rfl rfl rfl rfl (enters_of Tryd.func75 (by kernel_rfl) rfl) (fun w' hw' => minFunc_any R.length HLP.out HLE.out (rowsF R) cvS 92 cvSF_any (enters_of Tryd.func92 (by kernel_rfl) rfl) b c _ _ w' (HS.out.later hw'.2)) (fun _ => ?_)
      simp only [Act.put, List.setIfInBounds_toArray, List.set_cons_zero, List.set_cons_succ]
      refine rel_val (.int .i64 (bstC cvS (rowsF R) (R.length - 1) 0)) rfl rfl (fun _ _ => by simp [execOp, Act.eval, go_sem, mrow, fieldM0]) (fun _ => ?_)
      simp only [Act.put, List.setIfInBounds_toArray, List.set_cons_zero, List.set_cons_succ]
      refine rel_val _ rfl rfl (fun _ _ => rfl) (fun _ => ?_)
      simp only [Act.put, List.setIfInBounds_toArray, List.set_cons_zero, List.set_cons_succ]
      refine rel_val _ rfl rfl (fun _ _ => rfl) (fun _ => ?_)
      simp only [Act.put, List.setIfInBounds_toArray, List.set_cons_zero, List.set_cons_succ]
      refine rel_nil (fun W6 inv => ?_)
      have M6 := inv.cls.1
      clear inv
      rw [he.out]
      go_wp2_with fail
      go_ret2
      exact ⟨rfl, M6.below⟩
    · have he := Lib.hid (HB1.out h)
      have c5 : Hid (W2.cell? ⟨w.heap.size + 1 + 1, 5, none⟩ = some (.int .i8 1)) := Lib.hid (by rw [← h]; exact (M2.at 2 rfl).cell (i := 5) rfl)
      have hix := idxF1
      clear h HB0 HB1 HB2
      refine wp_region_rel (DL [dV (.slice (some ⟨b, 0, none⟩) R.length c), dV (.agg #[.func (.func 92) #[] #[], .func (.func 93) #[] #[], .func (.func 94) #[] #[]]), dV (.pointer (some ⟨w.heap.size + 1 + 1, 5, none⟩)), dV (.int .i8 1), dV (.func (.func 93) #[] #[]), dV (.agg (mrow (bstC cvN (rowsF R) (R.length - 1)))), dV (.int .i64 (bstC cvN (rowsF R) (R.length - 1) 0)), dV (.int .i64 (bstC cvN (rowsF R) (R.length - 1) 0)), dV (.nilIface)]) (fun w' => (Mem w w' [⟨w.heap.size, fcells f, 30⟩, ⟨w.heap.size + 1, acells .i16 100 g, 36⟩, ⟨w.heap.size + 1 + 1, flc a, 38⟩]) ∧ Below W2.heap.size W2 w') (by kernel_rfl) (by kernel_rfl) grows_memB
        (stays_DL (fun d hd => by
          simp only [List.mem_cons, List.mem_nil_iff, or_false] at hd
          rcases hd with rfl | rfl | rfl | rfl | rfl | rfl | rfl | rfl | rfl <;> exact stay_V)) ⟨M2.drew, (Below.refl _ _).drew⟩ ?_
      refine rel_val _ rfl rfl (fun _ _ => rfl) (fun _ => ?_)
      simp only [Act.put, List.setIfInBounds_toArray, List.set_cons_zero, List.set_cons_succ]
      refine rel_call (.agg #[.func (.func 92) #[] #[], .func (.func 93) #[] #[], .func (.func 94) #[] #[]]) 76 #[] rfl rfl rfl rfl (enters_of Tryd.func76 (by kernel_rfl) rfl) (fun w' _ => ot.out w') (fun _ => ?_)
      simp only [Act.put, List.setIfInBounds_toArray, List.set_cons_zero, List.set_cons_succ]
      refine rel_val (.pointer (some ⟨w.heap.size + 1 + 1, 5, none⟩)) rfl rfl (fun _ _ => by simp [execOp, Act.eval, go_sem]) (fun _ => ?_)
      simp only [Act.put, List.setIfInBounds_toArray, List.set_cons_zero, List.set_cons_succ]
      refine rel_cell 22 _ rfl (w.heap.size + 1 + 1) (5) rfl (.int .i8 1) rfl rfl (fun w' c => load_i8M _ _ _ w' c) (fun w' hw' => cell_later c5.out hw'.2) (fun _ => ?_)
      simp only [Act.put, List.setIfInBounds_toArray, List.set_cons_zero, List.set_cons_succ]
      refine rel_val (.func (.func 93) #[] #[]) rfl rfl (fun w' _ => by simp [execOp, Act.eval, hix w']) (fun _ => ?_)
      simp only [Act.put, List.setIfInBounds_toArray, List.set_cons_zero, List.set_cons_succ]
      refine rel_call (.agg (mrow (bstC cvN (rowsF R) (R.length - 1)))) 75 #[.slice (some ⟨b, 0, none⟩) R.length c, .func (.func 93) #[] #[]] rfl rfl rfl rfl (enters_of Tryd.func75 (by kernel_rfl) rfl) (fun w' hw' => minFunc_any R.length HLP.out HLE.out (rowsF R) cvN 93 cvNF_any (enters_of Tryd.func93 (by kernel_rfl) rfl) b c _ _ w' (HS.out.later hw'.2)) (fun _ => ?_)
      simp only [Act.put, List.setIfInBounds_toArray, List.set_cons_zero, List.set_cons_succ]
      refine rel_val (.int .i64 (bstC cvN (rowsF R) (R.length - 1) 0)) rfl rfl (fun _ _ => by simp [execOp, Act.eval, go_sem, mrow, fieldM0]) (fun _ => ?_)
      simp only [Act.put, List.setIfInBounds_toArray, List.set_cons_zero, List.set_cons_succ]
      refine rel_val _ rfl rfl (fun _ _ => rfl) (fun _ => ?_)
      simp only [Act.put, List.setIfInBounds_toArray, List.set_cons_zero, List.set_cons_succ]
      refine rel_val _ rfl rfl (fun _ _ => rfl) (fun _ => ?_)
      simp only [Act.put, List.setIfInBounds_toArray, List.set_cons_zero, List.set_cons_succ]
      refine rel_nil (fun W6 inv => ?_)
      have M6 := inv.cls.1
      clear inv
      rw [he.out]
      go_wp2_with fail
      go_ret2
      exact ⟨rfl, M6.below⟩
    · have he := Lib.hid (HB2.out h)
      have c5 : Hid (W2.cell? ⟨w.heap.size + 1 + 1, 5, none⟩ = some (.int .i8 2)) := Lib.hid (by rw [← h]; exact (M2.at 2 rfl).cell (i := 5) rfl)
      have hix := idxF2
      clear h HB0 HB1 HB2
      refine wp_region_rel (DL [dV (.slice (some ⟨b, 0, none⟩) R.length c), dV (.agg #[.func (.func 92) #[] #[], .func (.func 93) #[] #[], .func (.func 94) #[] #[]]), dV (.pointer (some ⟨w.heap.size + 1 + 1, 5, none⟩)), dV (.int .i8 2), dV (.func (.func 94) #[] #[]), dV (.agg (mrow (bstC cvC (rowsF R) (R.length - 1)))), dV (.int .i64 (bstC cvC (rowsF R) (R.length - 1) 0)), dV (.int .i64 (bstC cvC (rowsF R) (R.length - 1) 0)), dV (.nilIface)]) (fun w' => (Mem w w' [⟨w.heap.size, fcells f, 30⟩, ⟨w.heap.size + 1, acells .i16 100 g, 36⟩, ⟨w.heap.size + 1 + 1, flc a, 38⟩]) ∧ Below W2.heap.size W2 w') (by kernel_rfl) (by kernel_rfl) grows_memB
        (stays_DL (fun d hd => by
          simp only [List.mem_cons, List.mem_nil_iff, or_false] at hd
          rcases hd with rfl | rfl | rfl | rfl | rfl | rfl | rfl | rfl | rfl <;> exact stay_V)) ⟨M2.drew, (Below.refl _ _).drew⟩ ?_
      refine rel_val _ rfl rfl (fun _ _ => rfl) (fun _ => ?_)
      simp only [Act.put, List.setIfInBounds_toArray, List.set_cons_zero, List.set_cons_succ]
      refine rel_call (.agg #[.func (.func 92) #[] #[], .func (.func 93) #[] #[], .func (.func 94) #[] #[]]) 76 #[] rfl rfl rfl rfl (enters_of Tryd.func76 (by kernel_rfl) rfl) (fun w' _ => ot.out w') (fun _ => ?_)
      simp only [Act.put, List.setIfInBounds_toArray, List.set_cons_zero, List.set_cons_succ]
      refine rel_val (.pointer (some ⟨w.heap.size + 1 + 1, 5, none⟩)) rfl rfl (fun _ _ => by simp [execOp, Act.eval, go_sem]) (fun _ => ?_)
      simp only [Act.put, List.setIfInBounds_toArray, List.set_cons_zero, List.set_cons_succ]
      refine rel_cell 22 _ rfl (w.heap.size + 1 + 1) (5) rfl (.int .i8 2) rfl rfl (fun w' c => load_i8M _ _ _ w' c) (fun w' hw' => cell_later c5.out hw'.2) (fun _ => ?_)
      simp only [Act.put, List.setIfInBounds_toArray, List.set_cons_zero, List.set_cons_succ]
      refine rel_val (.func (.func 94) #[] #[]) rfl rfl (fun w' _ => by simp [execOp, Act.eval, hix w']) (fun _ => ?_)
      simp only [Act.put, List.setIfInBounds_toArray, List.set_cons_zero, List.set_cons_succ]
      refine rel_call (.agg (mrow (bstC cvC (rowsF R) (R.length - 1)))) 75 #[.slice (some ⟨b, 0, none⟩) R.length c, .func (.func 94) #[] #[]] rfl rfl rfl rfl (enters_of Tryd.func75 (by kernel_rfl) rfl) (fun w' hw' => minFunc_any R.length HLP.out HLE.out (rowsF R) cvC 94 cvCF_any (enters_of Tryd.func94 (by kernel_rfl) rfl) b c _ _ w' (HS.out.later hw'.2)) (fun _ => ?_)
      simp only [Act.put, List.setIfInBounds_toArray, List.set_cons_zero, List.set_cons_succ]
      refine rel_val (.int .i64 (bstC cvC (rowsF R) (R.length - 1) 0)) rfl rfl (fun _ _ => by simp [execOp, Act.eval, go_sem, mrow, fieldM0]) (fun _ => ?_)
      simp only [Act.put, List.setIfInBounds_toArray, List.set_cons_zero, List.set_cons_succ]
      refine rel_val _ rfl rfl (fun _ _ => rfl) (fun _ => ?_)
      simp only [Act.put, List.setIfInBounds_toArray, List.set_cons_zero, List.set_cons_succ]
      refine rel_val _ rfl rfl (fun _ _ => rfl) (fun _ => ?_)
      simp only [Act.put, List.setIfInBounds_toArray, List.set_cons_zero, List.set_cons_succ]
      refine rel_nil (fun W6 inv => ?_)
      have M6 := inv.cls.1
      clear inv
      rw [he.out]
      go_wp2_with fail
      go_ret2
      exact ⟨rfl, M6.below⟩
end Go.Proofs.YtaioflkonpommaaDoor
