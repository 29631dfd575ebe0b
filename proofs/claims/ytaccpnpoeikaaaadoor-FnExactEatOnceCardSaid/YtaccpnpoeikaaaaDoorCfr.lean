/-
  The cells to which a flock would go: the program's.
-/
import Derived.Test.YtaccpnpoeikaaaaDoorMls
import Derived.Test.YtaccpnpoeikaaaaDoorChF
namespace Go.Proofs.YtaccpnpoeikaaaaDoor
open Go Go.RowKit

theorem blk_next (W : World) (c1 : Array Value) (t1 : TypeId) (c2 : Array Value) (t2 : TypeId) : Blk ((W.alloc (.cells c1 t1)).alloc (.cells c2 t2)) (W.heap.size + 1) c2 t2 := by
  have h := Blk.new (W.alloc (.cells c1 t1)) c2 t2
  rw [World.size_alloc] at h
  exact h
theorem flc_size (a : Nat → Int) : (flc a).size = 6 := rfl
theorem vFlk (a : Nat → Int) : vFlock a = .agg (flc a) := rfl
set_option maxRecDepth 100000 in
set_option maxHeartbeats 4000000 in
theorem mealsFor_any (f : Fd) (hok : okF f = true) (g : Nat → Int) (hg : Wf16 g) (a : Nat → Int) (ha : WfR a) (h0 : 0 ≤ a 0 ∧ a 0 ≤ 99) (w : World) :
    Calls Tryd.prog 53 #[.agg (fcells f), .agg (acells .i16 100 g), vFlock a] w (MlP (mealsR f g a 100) w) := by
  obtain ⟨tr, htr, e0⟩ : ∃ tr : Nat, tr < 100 ∧ a 0 = (tr : Int) := ⟨(a 0).toNat, by omega, by omega⟩
  have hmf : ∀ (fn : Fn) (first cap : Array Value) (w : World), (Instr.makeFunc fn first cap).run Tryd.prog w = .ok (.func fn first cap) w := fun _ _ _ _ => rfl
  have HMF := Lib.hid (fun w => (by have h := mealsFrom_any f hok g hg a ha tr htr e0 w; rw [← e0] at h; exact h : Calls Tryd.prog 76 #[.int .i64 (a 0), .agg (fcells f), .agg (acells .i16 100 g), .func (.func 77) #[vFlock a] #[]] w (MlP (mealsR f g a 100) w)))
  have w0 : IntKind.i64.wrap (a 0) = a 0 := IntWalk.i64_in _ (by omega)
  obtain ⟨R, hR⟩ : ∃ R, mealsR f g a 100 = R := ⟨_, rfl⟩
  rw [hR] at HMF ⊢
  obtain ⟨h01, h02⟩ := h0
  clear hok hg ha hR e0
  go_enter Tryd.func53, Tryd.ntmps53
  go_upto_region 1 with (fail)
  obtain ⟨W, hW, M⟩ := open3 w (fcells f) 35 (acells .i16 100 g) 37 (flc a) 39
  unfold flc at hW
  rw [hW]; clear hW
  have c0 : W.cell? ⟨w.heap.size + 1 + 1, 0, none⟩ = some (.int .i16 (a 0)) := (M.at 2 rfl).cell (i := 0) rfl
  go_wp2_with (first
    | (refine wpList_load_part rfl 35 _ rfl w.heap.size 0 rfl (fcells f) _ (M.at 0 rfl).whole Tryd.underlying35 rfl (by rw [fcells_size]; exact sizeFd) ?_)
    | (refine wpList_load_part rfl 37 _ rfl (w.heap.size + 1) 0 rfl (acells .i16 100 g) _ (M.at 1 rfl).whole Tryd.underlying37 rfl (by rw [acells_size]; exact sizeE) ?_)
    | (refine wpList_load_part rfl 39 _ rfl (w.heap.size + 1 + 1) 0 rfl (flc a) _ (M.at 2 rfl).whole Tryd.underlying39 rfl (by kernel_rfl) ?_)
    | (go_at_call 76; refine (HMF.out _).mono ?_; rintro e W2 ⟨p, c, rfl, hS, hb⟩; have M2 := M.call hb))
  go_ret
  exact ⟨p, c, rfl, hS.weak M.below.size, M2.below⟩
/-- The set of the first rows' cells. -/
def mlS (F : Nat → Nat → Int) : Nat → Nat → Int
  | 0 => fun _ => 0
  | k + 1 => putC (mlS F k) (F k 0).toNat
theorem mlS_congr {F G : Nat → Nat → Int} : ∀ {k}, (∀ i, i < k → F i 0 = G i 0) → mlS F k = mlS G k
  | 0, _ => rfl
  | k + 1, h => by rw [mlS, mlS, mlS_congr (fun i hi => h i (by omega)), h k (by omega)]
theorem mlS_snoc (R : List (Nat → Int)) (r : Nat → Int) : mlS (rowsF (R ++ [r])) (R ++ [r]).length = putC (mlS (rowsF R) R.length) (r 0).toNat := by
  rw [List.length_append, List.length_cons, List.length_nil, mlS, rowsF_last, mlS_congr (fun i hi => rowsF_snoc hi 0)]
theorem mlS_all (f : Fd) (g a : Nat → Int) : ∀ n, mlS (rowsF (mealsR f g a n)) (mealsR f g a n).length = wantSet f (wldQ f g a) n
  | 0 => rfl
  | n + 1 => by
    cases h : (isCell f (n : Int) && wldQ f g a n) with
    | true =>
      rw [mealsR_yes h, mlS_snoc, mlS_all f g a n]
      simp only [Bool.and_eq_true] at h
      rw [wantSet_yes h.1 h.2]
      rfl
    | false => rw [mealsR_no h, mlS_all f g a n, wantSet_no h]
theorem meals_in (f : Fd) (g a : Nat → Int) : ∀ n, n ≤ 100 → ∀ i, i < (mealsR f g a n).length → ∃ c : Nat, c < n ∧ isCell f (c : Int) = true ∧ (∀ j, rowsF (mealsR f g a n) i j = mealR f g a c j)
  | 0, _, i, hi => absurd hi (by simp [mealsR])
  | n + 1, hn, i, hi => by
    cases h : (isCell f (n : Int) && wldQ f g a n) with
    | true =>
      rw [mealsR_yes h] at hi ⊢
      simp only [Bool.and_eq_true] at h
      by_cases hl : i < (mealsR f g a n).length
      · obtain ⟨c, hc, h1, h2⟩ := meals_in f g a n (by omega) i hl
        exact ⟨c, by omega, h1, fun j => by rw [rowsF_snoc hl]; exact h2 j⟩
      · obtain rfl : i = (mealsR f g a n).length := by simp at hi; omega
        exact ⟨n, by omega, h.1, fun j => rowsF_last _ _ j⟩
    | false =>
      rw [mealsR_no h] at hi ⊢
      obtain ⟨c, hc, h1, h2⟩ := meals_in f g a n (by omega) i hi
      exact ⟨c, by omega, h1, h2⟩
theorem so_row {t : TypeId} {lo : Nat} {w : World} {p : Option Addr} {n : Nat} {F : Nat → Nat → Int} (h : SO ksMeal t lo w p n F) {k : Nat} (hk : k < n) : ∃ b, p = some ⟨b, 0, none⟩ ∧ lo ≤ b ∧ w.rangeAt b (k * 4) (#[.int .i64 (F k 0), .int .i64 (F k 1), .int .i64 (F k 2), .int .i64 (F k 3)] : Array Value).toList := by
  rcases h with h0 | ⟨b, cs, hp, hl, _, B, hc⟩
  · omega
  · refine ⟨b, hp, hl, fun j v hj => ?_⟩
    have hj4 : j < 4 := by
      have := (List.getElem?_eq_some_iff.1 hj).1
      simpa using this
    have h1 : w.cell? ⟨b, k * 4 + j, none⟩ = some (sget ksMeal F k j) := B.cell (hc k hk j hj4)
    rw [h1]
    rcases (show j = 0 ∨ j = 1 ∨ j = 2 ∨ j = 3 by omega) with rfl | rfl | rfl | rfl <;> exact hj
set_option maxRecDepth 100000 in
set_option maxHeartbeats 8000000 in
theorem cellsFor_any (f : Fd) (hok : okF f = true) (g : Nat → Int) (hg : Wf16 g) (a : Nat → Int) (ha : WfR a) (h0 : 0 ≤ a 0 ∧ a 0 ≤ 99) (w : World) :
    Calls Tryd.prog 30 #[.agg (fcells f), .agg (acells .i16 100 g), vFlock a] w fun e w' => e = .returned (.agg (acells .u64 2 (wantSet f (wldQ f g a) 100))) ∧ Below w.heap.size w w' := by
  have HMF := Lib.hid (fun w => mealsFor_any f hok g hg a ha h0 w)
  have HAL := Lib.hid (mlS_all f g a 100)
  have HIN := Lib.hid (meals_in f g a 100 (Nat.le_refl _))
  have hle := mealsR_le f g a 100
  obtain ⟨G9, hG9⟩ : ∃ G9, wantSet f (wldQ f g a) 100 = G9 := ⟨_, rfl⟩
  rw [hG9] at HAL ⊢
  have HIC : Hid (∀ i, i < (mealsR f g a 100).length → ∃ c : Nat, c < 100 ∧ rowsF (mealsR f g a 100) i 0 = (c : Int)) := Lib.hid (fun i hi => by
    obtain ⟨c, hc, _, h2⟩ := HIN.out i hi
    exact ⟨c, hc, h2 0⟩)
  obtain ⟨R, hR⟩ : ∃ R, mealsR f g a 100 = R := ⟨_, rfl⟩
  rw [hR] at HMF HAL HIC hle
  clear hok hg ha hR HIN hG9 h0
  go_enter Tryd.func30, Tryd.ntmps30
  go_upto_region 1 with (fail)
  rw [zero2]
  obtain ⟨W, hW, M⟩ := open4 w (fcells f) 35 (acells .i16 100 g) 37 (flc a) 39 (acells .u64 2 (fun _ => 0)) 32
  unfold flc at hW
  rw [hW]; clear hW
  go_upto_region 2 with (fail)
  (try rw [zero2])
  obtain ⟨sb, hsb⟩ : ∃ sb, sb = W.heap.size := ⟨_, rfl⟩
  have M2 : Mem w (W.alloc (Obj.cells (acells .u64 2 (fun _ => 0)) 32)) [⟨w.heap.size, fcells f, 35⟩, ⟨w.heap.size + 1, acells .i16 100 g, 37⟩, ⟨w.heap.size + 1 + 1, flc a, 39⟩, ⟨w.heap.size + 1 + 1 + 1, acells .u64 2 (fun _ => 0), 32⟩, ⟨sb, acells .u64 2 (mlS (rowsF R) 0), 32⟩] := by rw [hsb]; exact M.alloc (acells .u64 2 (fun _ => 0)) 32
  generalize W.alloc _ = W2 at M2 ⊢
  rw [← hsb]
  clear hsb M
  go_upto_region 3 with (first
    | (refine wpList_load_part rfl 35 _ rfl w.heap.size 0 rfl (fcells f) _ (M2.at 0 rfl).whole Tryd.underlying35 rfl (by rw [fcells_size]; exact sizeFd) ?_)
    | (refine wpList_load_part rfl 37 _ rfl (w.heap.size + 1) 0 rfl (acells .i16 100 g) _ (M2.at 1 rfl).whole Tryd.underlying37 rfl (by rw [acells_size]; exact sizeE) ?_)
    | (refine wpList_load_part rfl 39 _ rfl (w.heap.size + 1 + 1) 0 rfl (flc a) _ (M2.at 2 rfl).whole Tryd.underlying39 rfl (by kernel_rfl) ?_)
    | (go_at_call 53; refine (HMF.out _).mono ?_; rintro e W3 ⟨p, c, rfl, hS, hb⟩; have M3 := M2.call hb; clear hb))
  have HS := Lib.hid hS
  have HM := Lib.hid M3
  clear M2 hS M3
  go_loopw [9, 15] (fun _ i wr => ∃ k : Nat, k ≤ R.length ∧ i = .int .i64 k ∧ Hid (Mem w wr [⟨w.heap.size, fcells f, 35⟩, ⟨w.heap.size + 1, acells .i16 100 g, 37⟩, ⟨w.heap.size + 1 + 1, flc a, 39⟩, ⟨w.heap.size + 1 + 1 + 1, acells .u64 2 (fun _ => 0), 32⟩, ⟨sb, acells .u64 2 (mlS (rowsF R) k), 32⟩]) ∧ Hid (SO ksMeal 100 W2.heap.size wr p R.length (rowsF R))) (fun _ i _ => R.length - (intOf i).toNat)
  case atStart => exact ⟨0, by omega, rfl, HM, HS⟩
  case round =>
    clear HM HS
    obtain ⟨k, hk, rfl, hM, hS⟩ := hrel
    by_cases hlt : k < R.length
    · obtain ⟨b, rfl, hbl, hrg⟩ := so_row hS.out hlt
      obtain ⟨c9, hc9, e9⟩ := HIC.out k hlt
      have hst : mlS (rowsF R) (k + 1) = putC (mlS (rowsF R) k) c9 := by rw [mlS, e9, Int.toNat_natCast]
      have HST := Lib.hid hst
      rw [e9] at hrg
      obtain ⟨gk, hgk⟩ : ∃ gk, mlS (rowsF R) k = gk := ⟨_, rfl⟩
      rw [hgk] at hM HST
      have HRG := Lib.hid hrg
      obtain ⟨y1, hy1⟩ : ∃ y1, rowsF R k 1 = y1 := ⟨_, rfl⟩
      obtain ⟨y2, hy2⟩ : ∃ y2, rowsF R k 2 = y2 := ⟨_, rfl⟩
      obtain ⟨y3, hy3⟩ : ∃ y3, rowsF R k 3 = y3 := ⟨_, rfl⟩
      rw [hy1, hy2, hy3] at HRG
      clear hst e9 hrg hgk hy1 hy2 hy3
      go_upto_region 5 with (first
        | (refine wpList_load_part rfl 100 _ rfl b (k * 4) rfl #[.int .i64 (c9 : Int), .int .i64 y1, .int .i64 y2, .int .i64 y3] _ HRG.out Tryd.underlying100 rfl sizeMl ?_))
      have M4 := hM.out.alloc #[.int .i64 (c9 : Int), .int .i64 y1, .int .i64 y2, .int .i64 y3] 100
      obtain ⟨mb, hmb⟩ : ∃ mb, mb = wr.heap.size := ⟨_, rfl⟩
      have B4 : Below wr.heap.size wr (wr.alloc (Obj.cells #[.int .i64 (c9 : Int), .int .i64 y1, .int .i64 y2, .int .i64 y3] 100)) := (Below.refl _ _).alloc (Nat.le_refl _) _
      rw [← hmb] at M4 ⊢
      generalize World.alloc _ _ = W4 at M4 B4 ⊢
      clear hmb
      have m0 := (M4.at 5 rfl).cell (i := 0) rfl
      go_wp2_with (first
        | (refine wpList_load_part rfl 32 _ rfl sb 0 rfl (acells .u64 2 gk) _ (M4.at 4 rfl).whole Tryd.underlying32 rfl (by rw [acells_size]; exact sizeC) ?_)
        | (go_at_call 54; refine (withCell_any gk c9 hc9 _).mono ?_; rintro e W5 ⟨rfl, hb5⟩; have M5 := M4.call hb5)
        | (refine wpList_store_row rfl 32 _ _ rfl (sb) (acells .u64 2 (putC gk c9)) rfl rfl 32 _ (M5.at 4 rfl) (by rw [acells_size]; exact sizeC) (by simp only [acells_size]) (acells_one _ _ _) ?_))
      have M6 := Mem.init (L := [⟨w.heap.size, fcells f, 35⟩, ⟨w.heap.size + 1, acells .i16 100 g, 37⟩, ⟨w.heap.size + 1 + 1, flc a, 39⟩, ⟨w.heap.size + 1 + 1 + 1, acells .u64 2 (fun _ => 0), 32⟩, ⟨sb, acells .u64 2 (putC gk c9), 32⟩]) (M5.row 4 rfl (acells .u64 2 (putC gk c9)))
      have S6 := (hS.out.later B4).later hb5
      have S7 : SO ksMeal 100 W2.heap.size (W5.setRow sb (acells .u64 2 (putC gk c9))) (some ⟨b, 0, none⟩) R.length (rowsF R) := by
        rcases S6 with h | ⟨b', cs', e', h1, h2, h3, h4⟩
        · exact .inl h
        · exact .inr ⟨b', cs', e', h1, h2, h3.rowOther _ (by
            have := (M5.at 4 rfl)
            intro e8
            have h8 := h3
            rw [e8] at h8
            have h9 := this.symm.trans h8
            simp at h9), h4⟩
      go_roundw
      case rel => exact ⟨k + 1, by omega, by go_num, by rw [HST.out]; exact Lib.hid M6, Lib.hid S7⟩
      case measure => simp [intOf]; omega
    · obtain rfl : k = R.length := by omega
      rw [HAL.out] at hM
      go_wp2_with (first
        | (refine wpList_load_part rfl 32 _ rfl sb 0 rfl (acells .u64 2 G9) _ (hM.out.at 4 rfl).whole Tryd.underlying32 rfl (by rw [acells_size]; exact sizeC) ?_)
        | (refine wpList_store_row rfl 32 _ _ rfl (w.heap.size + 1 + 1 + 1) (acells .u64 2 (G9)) rfl rfl 32 _ (hM.out.at 3 rfl) (by rw [acells_size]; exact sizeC) (by simp only [acells_size]) (acells_one _ _ _) ?_))
      have M5 := hM.out.row 3 rfl (acells .u64 2 G9)
      exact bodyPost_ret (results_cell_row rfl _ _ (w.heap.size + 1 + 1 + 1) 32 _ _ _ rfl (M5.at 3 rfl) Tryd.underlying32 rfl (by rw [acells_size]; exact sizeC)) rfl ⟨rfl, M5.below⟩
theorem okBirds (f : Fd) (g a : Nat → Int) : (okFlocks f 1 (fun _ => a) && allTo 100 (fearOk f g)) = ffOk f g a := by
  rw [okFlocks_one]
  unfold okHunger ffOk okFears
  cases okF f <;> cases flockOk f a <;> cases allTo 100 (fearOk f g) <;> rfl
set_option maxRecDepth 100000 in
set_option maxHeartbeats 8000000 in
/-- The check ahead of all functions of one flock. -/
theorem checkOne (f : Fd) (hf : f.Wf) (g : Nat → Int) (hg : Wf16 g) (a : Nat → Int) (ha : WfR a) (A : Nat → Addr) (fb eb : Nat) (tf te : TypeId) (w : World) (T : TabAt w) (S : Sents w A) (B1 : Blk w fb (flc a) tf) (B2 : Blk w eb (acells .i16 100 g) te) :
    Calls Tryd.prog 28 #[.agg (fcells f), .slice (some ⟨fb, 0, none⟩) 1 1, .slice (some ⟨eb, 0, none⟩) 1 1] w fun e w' => e = .returned (errIf A 1 (ffOk f g a)) ∧ Below w.heap.size w w' := by
  rw [← okBirds]
  exact checkBirds1 f hf 1 (by omega) (fun _ => a) (wfS_one ha) g hg A fb 1 eb te w T S (inS_one B1) B2

end Go.Proofs.YtaccpnpoeikaaaaDoor
