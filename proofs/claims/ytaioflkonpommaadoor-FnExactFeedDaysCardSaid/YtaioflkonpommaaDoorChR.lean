/-
  Which cell a flock chooses: the model's.
-/
import Derived.Test.YtaioflkonpommaaDoorWld
import Derived.Test.YtaioflkonpommaaDoorLstM
import Derived.Test.YtaioflkonpommaaDoorCfr
namespace Go.Proofs.YtaioflkonpommaaDoor
open Go Go.RowKit

/-- The numbers by which meals are compared. -/
def rkT (t : Int) (r : Nat → Int) : Nat → Int := if t = 0 then (fun j => if j = 0 then -(r 1) else if j = 1 then r 2 else 0) else if t = 1 then (fun j => if j = 0 then r 2 else if j = 1 then -(r 1) else 0) else (fun j => if j = 0 then r 3 else if j = 1 then -(r 1) else r 2)
def r3 (q : Nat → Int) : Array Value := #[.int .i64 (q 0), .int .i64 (q 1), .int .i64 (q 2)]
def lessR (p q : Nat → Int) : Bool := decide (p 0 < q 0) || (p 0 == q 0) && (decide (p 1 < q 1) || (p 1 == q 1) && decide (p 2 < q 2))
def bstM (t : Int) (F : Nat → Nat → Int) : Nat → Nat → Int
  | 0 => F 0
  | k + 1 => if lessR (rkT t (F (k + 1))) (rkT t (bstM t F k)) = true then F (k + 1) else bstM t F k
/-- The best row of a list. -/
def bL (t : Int) (R : List (Nat → Int)) : Nat → Int := bstM t (rowsF R) (R.length - 1)
theorem rowsF_at (R : List (Nat → Int)) (r : Nat → Int) : rowsF (R ++ [r]) R.length = r := funext (rowsF_last R r)
theorem rowsF_old {R : List (Nat → Int)} {r : Nat → Int} {i : Nat} (h : i < R.length) : rowsF (R ++ [r]) i = rowsF R i := funext (rowsF_snoc h)
theorem bstM_congr {t : Int} {F G : Nat → Nat → Int} : ∀ {k}, (∀ i, i ≤ k → F i = G i) → bstM t F k = bstM t G k
  | 0, h => h 0 (Nat.le_refl _)
  | k + 1, h => by rw [bstM, bstM, bstM_congr (fun i hi => h i (by omega)), h (k + 1) (Nat.le_refl _)]
theorem bL_one (t : Int) (r : Nat → Int) : bL t [r] = r := rfl
theorem bL_snoc (t : Int) {R : List (Nat → Int)} (hR : R.length ≠ 0) (r : Nat → Int) : bL t (R ++ [r]) = if lessR (rkT t r) (rkT t (bL t R)) = true then r else bL t R := by
  obtain ⟨m, hm⟩ : ∃ m, R.length = m + 1 := ⟨R.length - 1, by omega⟩
  unfold bL
  rw [List.length_append, List.length_cons, List.length_nil, hm, show m + 1 + (0 + 1) - 1 = m + 1 by omega, show m + 1 - 1 = m by omega, bstM]
  rw [show rowsF (R ++ [r]) (m + 1) = r by rw [← hm]; exact rowsF_at R r, bstM_congr (G := rowsF R) (fun i hi => rowsF_old (by omega))]
theorem bL_mem (t : Int) {R : List (Nat → Int)} (hR : R.length ≠ 0) : ∃ i, i < R.length ∧ bL t R = rowsF R i := by
  have key : ∀ k, k < R.length → ∃ i, i ≤ k ∧ bstM t (rowsF R) k = rowsF R i := by
    intro k
    induction k with
    | zero => intro _; exact ⟨0, Nat.le_refl _, rfl⟩
    | succ k ih =>
      intro hk
      obtain ⟨i, hi, e⟩ := ih (by omega)
      rw [bstM]
      split
      · exact ⟨k + 1, Nat.le_refl _, rfl⟩
      · exact ⟨i, by omega, e⟩
  obtain ⟨i, hi, e⟩ := key (R.length - 1) (by omega)
  exact ⟨i, by omega, e⟩
set_option maxRecDepth 100000 in
set_option maxHeartbeats 8000000 in
theorem l02Ranks_any (f : Fd) (hf : f.Wf) (g : Nat → Int) (hg : Wf16 g) (a : Nat → Int) (ha : WfR a) (h0 : 0 ≤ a 0 ∧ a 0 ≤ 99) (h5 : 0 ≤ a 5 ∧ a 5 ≤ 2) (k : Nat) (hk : k < 100) (b c d o : Nat) (w : World) (B : Blk w b (fcells f) 30) (G : Blk w c (acells .i16 100 g) 36) (H : FlkAt w d o a) :
    Calls Tryd.prog 67 #[.pointer (some ⟨b, 0, none⟩), .pointer (some ⟨c, 0, none⟩), .pointer (some ⟨d, o, none⟩), .int .i64 (k : Int)] w fun e w' => e = .returned (.agg (r3 (rkT (a 5) (mealR f g a k)))) ∧ Below w.heap.size w w' := by
  have cS := B.cell (fcells_S f k hk)
  have cG : w.cell? ⟨c, k, none⟩ = some (.int .i16 (g k)) := G.cell (acells_get _ _ _ _ hk)
  obtain ⟨c0, _, _, _, _, c5⟩ := H
  obtain ⟨⟨a01, a02⟩, _, _, _, _, _⟩ := ha
  have hk1 : (k : Int) < 100 := by omega
  have HSQ := Lib.hid (fun w => sqW (k : Int) (a 0) ⟨by omega, by omega⟩ ⟨by omega, by omega⟩ w)
  have hS9 := hf.S k hk
  have hG9 := hg k hk
  obtain ⟨s, hs⟩ : ∃ s, f.S k = s := ⟨_, rfl⟩
  obtain ⟨q, hq⟩ : ∃ q, sq (k : Int) (a 0) = q := ⟨_, rfl⟩
  obtain ⟨e9, he9⟩ : ∃ e9, g k = e9 := ⟨_, rfl⟩
  have hm1 : mealR f g a k 1 = s := hs
  have hm2 : mealR f g a k 2 = q := by rw [← hq, sq_comm]; rfl
  have hm3 : mealR f g a k 3 = e9 := he9
  rw [hs] at cS hS9
  rw [he9] at cG hG9
  rw [hq] at HSQ
  have hwn : IntKind.i64.wrap (-s) = -s := IntWalk.i64_in _ (by omega)
  have hws : IntKind.i64.wrap s = s := IntWalk.i64_in _ (by omega)
  have hwe : IntKind.i64.wrap e9 = e9 := IntWalk.i64_in _ (by omega)
  have hT0 : Hid (a 5 = 0 → r3 (rkT (a 5) (mealR f g a k)) = #[.int .i64 (-s), .int .i64 q, .int .i64 0]) := Lib.hid (fun h => by unfold rkT r3; rw [if_pos h]; show #[Value.int .i64 (-(mealR f g a k 1)), .int .i64 (mealR f g a k 2), .int .i64 0] = _; rw [hm1, hm2])
  have hT1 : Hid (a 5 = 1 → r3 (rkT (a 5) (mealR f g a k)) = #[.int .i64 q, .int .i64 (-s), .int .i64 0]) := Lib.hid (fun h => by unfold rkT r3; rw [if_neg (by omega), if_pos h]; show #[Value.int .i64 (mealR f g a k 2), .int .i64 (-(mealR f g a k 1)), .int .i64 0] = _; rw [hm1, hm2])
  have hT2 : Hid (a 5 = 2 → r3 (rkT (a 5) (mealR f g a k)) = #[.int .i64 e9, .int .i64 (-s), .int .i64 q]) := Lib.hid (fun h => by unfold rkT r3; rw [if_neg (by omega), if_neg (by omega)]; show #[Value.int .i64 (mealR f g a k 3), .int .i64 (-(mealR f g a k 1)), .int .i64 (mealR f g a k 2)] = _; rw [hm1, hm2, hm3])
  clear B G hs hq he9 hm1 hm2 hm3 hg hf
  rcases (show a 5 = 0 ∨ a 5 = 1 ∨ a 5 = 2 by omega) with h | h | h
  · rw [hT0.out h]
    rw [h] at c5
    clear h h5 hT0 hT1 hT2
    go_enter Tryd.func67, Tryd.ntmps67
    go_upto_region 1 with (fail)
    obtain ⟨W, hW, M⟩ := open1 w #[.int .i64 0, .int .i64 0, .int .i64 0] 106
    have b0 := cell_later c0 M.below
    have bS := cell_later cS M.below
    have bG := cell_later cG M.below
    have b5 := cell_later c5 M.below
    rw [hW]; clear hW
    clear c0 cS cG c5
    go_wp2_with (first
      | (go_at_call 84; refine (HSQ.out _).mono ?_; rintro e w1 ⟨rfl, rfl⟩)
      | (refine wpList_store_row rfl 106 _ _ rfl w.heap.size #[.int .i64 (-s), .int .i64 q, .int .i64 0] rfl rfl 106 _ (M.at 0 rfl) (by kernel_rfl) rfl (by simp [Value.oneCell']) ?_))
    have M2 := M.row 0 rfl #[.int .i64 (-s), .int .i64 q, .int .i64 0]
    exact bodyPost_ret (results_cell_row rfl _ _ w.heap.size 106 _ _ _ rfl (M2.at 0 rfl) Tryd.underlying106 rfl (by kernel_rfl)) rfl ⟨rfl, M2.below⟩
  · rw [hT1.out h]
    rw [h] at c5
    clear h h5 hT0 hT1 hT2
    go_enter Tryd.func67, Tryd.ntmps67
    go_upto_region 1 with (fail)
    obtain ⟨W, hW, M⟩ := open1 w #[.int .i64 0, .int .i64 0, .int .i64 0] 106
    have b0 := cell_later c0 M.below
    have bS := cell_later cS M.below
    have bG := cell_later cG M.below
    have b5 := cell_later c5 M.below
    rw [hW]; clear hW
    clear c0 cS cG c5
    go_wp2_with (first
      | (go_at_call 84; refine (HSQ.out _).mono ?_; rintro e w1 ⟨rfl, rfl⟩)
      | (refine wpList_store_row rfl 106 _ _ rfl w.heap.size #[.int .i64 q, .int .i64 (-s), .int .i64 0] rfl rfl 106 _ (M.at 0 rfl) (by kernel_rfl) rfl (by simp [Value.oneCell']) ?_))
    have M2 := M.row 0 rfl #[.int .i64 q, .int .i64 (-s), .int .i64 0]
    exact bodyPost_ret (results_cell_row rfl _ _ w.heap.size 106 _ _ _ rfl (M2.at 0 rfl) Tryd.underlying106 rfl (by kernel_rfl)) rfl ⟨rfl, M2.below⟩
  · rw [hT2.out h]
    rw [h] at c5
    clear h h5 hT0 hT1 hT2
    go_enter Tryd.func67, Tryd.ntmps67
    go_upto_region 1 with (fail)
    obtain ⟨W, hW, M⟩ := open1 w #[.int .i64 0, .int .i64 0, .int .i64 0] 106
    have b0 := cell_later c0 M.below
    have bS := cell_later cS M.below
    have bG := cell_later cG M.below
    have b5 := cell_later c5 M.below
    rw [hW]; clear hW
    clear c0 cS cG c5
    go_wp2_with (first
      | (go_at_call 84; refine (HSQ.out _).mono ?_; rintro e w1 ⟨rfl, rfl⟩)
      | (refine wpList_store_row rfl 106 _ _ rfl w.heap.size #[.int .i64 e9, .int .i64 (-s), .int .i64 q] rfl rfl 106 _ (M.at 0 rfl) (by kernel_rfl) rfl (by simp [Value.oneCell']) ?_))
    have M2 := M.row 0 rfl #[.int .i64 e9, .int .i64 (-s), .int .i64 q]
    exact bodyPost_ret (results_cell_row rfl _ _ w.heap.size 106 _ _ _ rfl (M2.at 0 rfl) Tryd.underlying106 rfl (by kernel_rfl)) rfl ⟨rfl, M2.below⟩
end Go.Proofs.YtaioflkonpommaaDoor
