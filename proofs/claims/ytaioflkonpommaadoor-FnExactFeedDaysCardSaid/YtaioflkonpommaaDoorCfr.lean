/-
  The cells to which a flock would go: the program's.
-/
import Derived.Test.YtaioflkonpommaaDoorMls
import Derived.Test.YtaioflkonpommaaDoorChF
namespace Go.Proofs.YtaioflkonpommaaDoor
open Go Go.RowKit

theorem blk_next (W : World) (c1 : Array Value) (t1 : TypeId) (c2 : Array Value) (t2 : TypeId) : Blk ((W.alloc (.cells c1 t1)).alloc (.cells c2 t2)) (W.heap.size + 1) c2 t2 := by
  have h := Blk.new (W.alloc (.cells c1 t1)) c2 t2
  rw [World.size_alloc] at h
  exact h
theorem flc_size (a : Nat → Int) : (flc a).size = 6 := rfl
theorem vFlk (a : Nat → Int) : vFlock a = .agg (flc a) := rfl
set_option maxRecDepth 100000 in
set_option maxHeartbeats 4000000 in
theorem mealsFor_any (f : Fd) (hok : okF f = true) (g : Nat → Int) (hg : Wf16 g) (a : Nat → Int) (ha : WfR a) (h0 : 0 ≤ a 0 ∧ a 0 ≤ 99) (w : World) :
    Calls Tryd.prog 74 #[.agg (fcells f), .agg (acells .i16 100 g), vFlock a] w (MlP (mealsR f g a 100) w) := by
  obtain ⟨tr, htr, e0⟩ : ∃ tr : Nat, tr < 100 ∧ a 0 = (tr : Int) := ⟨(a 0).toNat, by omega, by omega⟩
  have hmf : ∀ (fn : Fn) (first cap : Array Value) (w : World), (Instr.makeFunc fn first cap).run Tryd.prog w = .ok (.func fn first cap) w := fun _ _ _ _ => rfl
  have HMF := Lib.hid (fun w => (by have h := mealsFrom_any f hok g hg a ha tr htr e0 w; rw [← e0] at h; exact h : Calls Tryd.prog 90 #[.int .i64 (a 0), .agg (fcells f), .agg (acells .i16 100 g), .func (.func 91) #[vFlock a] #[]] w (MlP (mealsR f g a 100) w)))
  have w0 : IntKind.i64.wrap (a 0) = a 0 := IntWalk.i64_in _ (by omega)
  obtain ⟨R, hR⟩ : ∃ R, mealsR f g a 100 = R := ⟨_, rfl⟩
  rw [hR] at HMF ⊢
  obtain ⟨h01, h02⟩ := h0
  clear hok hg ha hR e0
  go_enter Tryd.func74, Tryd.ntmps74
  go_upto_region 1 with (fail)
  obtain ⟨W, hW, M⟩ := open3 w (fcells f) 30 (acells .i16 100 g) 36 (flc a) 38
  unfold flc at hW
  rw [hW]; clear hW
  have c0 : W.cell? ⟨w.heap.size + 1 + 1, 0, none⟩ = some (.int .i16 (a 0)) := (M.at 2 rfl).cell (i := 0) rfl
  go_wp2_with (first
    | (refine wpList_load_part rfl 30 _ rfl w.heap.size 0 rfl (fcells f) _ (M.at 0 rfl).whole Tryd.underlying30 rfl (by rw [fcells_size]; exact sizeFd) ?_)
    | (refine wpList_load_part rfl 36 _ rfl (w.heap.size + 1) 0 rfl (acells .i16 100 g) _ (M.at 1 rfl).whole Tryd.underlying36 rfl (by rw [acells_size]; exact sizeE) ?_)
    | (refine wpList_load_part rfl 38 _ rfl (w.heap.size + 1 + 1) 0 rfl (flc a) _ (M.at 2 rfl).whole Tryd.underlying38 rfl (by kernel_rfl) ?_)
    | (go_at_call 90; refine (HMF.out _).mono ?_; rintro e W2 ⟨p, c, rfl, hS, hb⟩; have M2 := M.call hb))
  go_ret
  exact ⟨p, c, rfl, hS.weak M.below.size, M2.below⟩
/-- The set of the first rows' cells. -/
def mlS (F : Nat → Nat → Int) : Nat → Nat → Int
  | 0 => fun _ => 0
  | k + 1 => putC (mlS F k) (F k 0).toNat
theorem mlS_congr {F G : Nat → Nat → Int} : ∀ {k}, (∀ i, i < k → F i 0 = G i 0) → mlS F k = mlS G k
  | 0, _ => rfl
  | k + 1, h => by rw [mlS, mlS, mlS_congr (fun i hi => h i (by omega)), h k (by omega)]
theorem mlS_snoc (R : List (Nat → Int)) (r : Nat → Int) : mlS (rowsF (R ++ [r])) (R ++ [r]).length = putC (mlS (rowsF R) R.length) (r 0).toNat := by
  rw [List.length_append, List.length_cons, List.length_nil, mlS, rowsF_last, mlS_congr (fun i hi => rowsF_snoc hi 0)]
theorem mlS_all (f : Fd) (g a : Nat → Int) : ∀ n, mlS (rowsF (mealsR f g a n)) (mealsR f g a n).length = wantSet f (wldQ f g a) n
  | 0 => rfl
  | n + 1 => by
    cases h : (isCell f (n : Int) && wldQ f g a n) with
    | true =>
      rw [mealsR_yes h, mlS_snoc, mlS_all f g a n]
      simp only [Bool.and_eq_true] at h
      rw [wantSet_yes h.1 h.2]
      rfl
    | false => rw [mealsR_no h, mlS_all f g a n, wantSet_no h]
theorem meals_in (f : Fd) (g a : Nat → Int) : ∀ n, n ≤ 100 → ∀ i, i < (mealsR f g a n).length → ∃ c : Nat, c < n ∧ isCell f (c : Int) = true ∧ (∀ j, rowsF (mealsR f g a n) i j = mealR f g a c j)
  | 0, _, i, hi => absurd hi (by simp [mealsR])
  | n + 1, hn, i, hi => by
    cases h : (isCell f (n : Int) && wldQ f g a n) with
    | true =>
      rw [mealsR_yes h] at hi ⊢
      simp only [Bool.and_eq_true] at h
      by_cases hl : i < (mealsR f g a n).length
      · obtain ⟨c, hc, h1, h2⟩ := meals_in f g a n (by omega) i hl
        exact ⟨c, by omega, h1, fun j => by rw [rowsF_snoc hl]; exact h2 j⟩
      · obtain rfl : i = (mealsR f g a n).length := by simp at hi; omega
        exact ⟨n, by omega, h.1, fun j => rowsF_last _ _ j⟩
    | false =>
      rw [mealsR_no h] at hi ⊢
      obtain ⟨c, hc, h1, h2⟩ := meals_in f g a n (by omega) i hi
      exact ⟨c, by omega, h1, h2⟩
theorem so_row {t : TypeId} {lo : Nat} {w : World} {p : Option Addr} {n : Nat} {F : Nat → Nat → Int} (h : SO ksMeal t lo w p n F) {k : Nat} (hk : k < n) : ∃ b, p = some ⟨b, 0, none⟩ ∧ lo ≤ b ∧ w.rangeAt b (k * 4) (#[.int .i64 (F k 0), .int .i64 (F k 1), .int .i64 (F k 2), .int .i64 (F k 3)] : Array Value).toList := by
  rcases h with h0 | ⟨b, cs, hp, hl, _, B, hc⟩
  · omega
  · refine ⟨b, hp, hl, fun j v hj => ?_⟩
    have hj4 : j < 4 := by
      have := (List.getElem?_eq_some_iff.1 hj).1
      simpa using this
    have h1 : w.cell? ⟨b, k * 4 + j, none⟩ = some (sget ksMeal F k j) := B.cell (hc k hk j hj4)
    rw [h1]
    rcases (show j = 0 ∨ j = 1 ∨ j = 2 ∨ j = 3 by omega) with rfl | rfl | rfl | rfl <;> exact hj
theorem okBirds (f : Fd) (g a : Nat → Int) : (okFlocks f 1 (fun _ => a) && allTo 100 (fearOk f g)) = ffOk f g a := by
  rw [okFlocks_one]
  unfold okHunger ffOk okFears
  cases okF f <;> cases flockOk f a <;> cases allTo 100 (fearOk f g) <;> rfl
set_option maxRecDepth 100000 in
set_option maxHeartbeats 8000000 in
/-- The check ahead of all functions of one flock. -/
theorem checkOne (f : Fd) (hf : f.Wf) (g : Nat → Int) (hg : Wf16 g) (a : Nat → Int) (ha : WfR a) (A : Nat → Addr) (fb eb : Nat) (tf te : TypeId) (w : World) (T : TabAt w) (S : Sents w A) (B1 : Blk w fb (flc a) tf) (B2 : Blk w eb (acells .i16 100 g) te) :
    Calls Tryd.prog 44 #[.agg (fcells f), .slice (some ⟨fb, 0, none⟩) 1 1, .slice (some ⟨eb, 0, none⟩) 1 1] w fun e w' => e = .returned (errIf A 1 (ffOk f g a)) ∧ Below w.heap.size w w' := by
  rw [← okBirds]
  exact checkBirds1 f hf 1 (by omega) (fun _ => a) (wfS_one ha) g hg A fb 1 eb te w T S (inS_one B1) B2

end Go.Proofs.YtaioflkonpommaaDoor
