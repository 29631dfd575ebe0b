/-
  NeighboursOf: the model's, the program's.
-/
import Derived.Test.YtcaeihhdapghkaaDoorNbr
import Derived.Test.YtcaeihhdapghkaaDoorAt
namespace Go.Proofs.YtcaeihhdapghkaaDoor
open Go Go.RowKit

def nbrs (f : Fd) (c : Int) : List Int := if asked f c true = 0 then nlist f c.toNat 4 else []
theorem nbrs_ok {f : Fd} {c : Nat} (h : asked f c true = 0) : nbrs f c = nlist f c 4 := by rw [nbrs, if_pos h, Int.toNat_natCast]
theorem nbrs_bad {f : Fd} {c : Int} (h : asked f c true ≠ 0) : nbrs f c = [] := by rw [nbrs, if_neg h]
theorem nbrs_le (f : Fd) (c : Int) : (nbrs f c).length ≤ 4 := by
  unfold nbrs; split
  · exact nlist_le f _ 4
  · simp
theorem Lst.empty {lo : Nat} {w : World} (h : lo ≤ w.heap.size) : Lst lo (w.alloc (.cells #[] 2)) (.slice (some ⟨w.heap.size, 0, none⟩) 0 0) [] :=
  ⟨rfl, .inr ⟨w.heap.size, 0, #[], rfl, h, Blk.new _ _ _, Nat.le_refl _, by unfold maxLen; omega, rfl, rfl⟩⟩
theorem Lst.nil {lo : Nat} {w : World} : Lst lo w (.slice none 0 0) [] := World.ownsRow_nil _ _ _ _
set_option maxRecDepth 100000 in
set_option maxHeartbeats 2000000 in
theorem specNeighboursOf (f : Fd) (hf : f.Wf) (c : Int) (w : World) : Calls Tryd.prog 13 #[.agg (fcells f), .int .i64 c] w fun e w' => ∃ v, e = .returned (.tuple #[v, .int .i64 (asked f c true)]) ∧ Lst w.heap.size w' v (nbrs f c) ∧ Below w.heap.size w w' := by
  cases h : (asked f c true == 0) with
  | false =>
    have h0 : asked f c true ≠ 0 := by simpa using h
    have h' : (asked f c true != 0) = true := by simpa using h
    rw [nbrs_bad h0]; clear h0
    go_enter Tryd.func13, Tryd.ntmps13
    go_wp2_with (go_at_call 41; refine (l01Asked_any f hf c true w.heap.size _ (Blk.new _ _ _)).mono ?_; rintro e w' ⟨rfl, rfl⟩)
    go_ret2
    refine ⟨.slice (some ⟨w.heap.size + 1, 0, none⟩) 0 0, rfl, ?_, ((Below.refl _ _).alloc (Nat.le_refl _) _).alloc (by simp) _⟩
    have hs : w.heap.size ≤ (w.alloc (.cells (fcells f) 32)).heap.size := by simp
    have e := Lst.empty (lo := w.heap.size) hs
    rw [World.size_alloc] at e
    exact e
  | true =>
    have h0 : asked f c true = 0 := by simpa using h
    obtain ⟨hok, hc, _⟩ := asked_0 h0
    obtain ⟨hW1, hW2, hH1, hH2⟩ := okF_size hok
    obtain ⟨k, hk, rfl⟩ := cell_nat hc
    rw [nbrs_ok h0, h0]
    clear h
    go_enter Tryd.func13, Tryd.ntmps13
    go_wp2_with (first
      | (go_at_call 41; refine (l01Asked_any f hf k true w.heap.size _ (Blk.new _ _ _)).mono ?_; rintro e w' ⟨rfl, rfl⟩; rw [h0])
      | (go_at_call 56; refine (l01Beside_any f hf hW2 hH2 k hk hc w.heap.size _ (Blk.new _ _ _)).mono ?_; rintro e w1 ⟨v, rfl, hv, hb⟩))
    go_ret2
    simp only [World.size_alloc] at hv hb
    exact ⟨v, rfl, World.ownsRow.mono hv (by omega), ((Below.refl _ _).alloc (Nat.le_refl _) _).trans (hb.mono (by omega))⟩
abbrev vPts (x y : Int) : Value := .agg #[.int .i64 x, .int .i64 (y - 1), .int .i64 (x - 1), .int .i64 y, .int .i64 (x + 1), .int .i64 y, .int .i64 x, .int .i64 (y + 1)]
theorem idxP0 (x y : Int) (w : World) : (Instr.index 110 (vPts x y) (.int .i64 0)).run Tryd.prog w = .ok (.agg #[.int .i64 x, .int .i64 (y - 1)]) w := by kernel_rfl
theorem idxP1 (x y : Int) (w : World) : (Instr.index 110 (vPts x y) (.int .i64 1)).run Tryd.prog w = .ok (.agg #[.int .i64 (x - 1), .int .i64 y]) w := by kernel_rfl
theorem idxP2 (x y : Int) (w : World) : (Instr.index 110 (vPts x y) (.int .i64 2)).run Tryd.prog w = .ok (.agg #[.int .i64 (x + 1), .int .i64 y]) w := by kernel_rfl
theorem idxP3 (x y : Int) (w : World) : (Instr.index 110 (vPts x y) (.int .i64 3)).run Tryd.prog w = .ok (.agg #[.int .i64 x, .int .i64 (y + 1)]) w := by kernel_rfl
theorem idxN (x y : Int) (k : Nat) (hk : k < 4) (w : World) : (Instr.index 110 (vPts x y) (.int .i64 k)).run Tryd.prog w = .ok (.agg #[.int .i64 (nx x k), .int .i64 (ny y k)]) w := by
  have h : k = 0 ∨ k = 1 ∨ k = 2 ∨ k = 3 := by omega
  rcases h with rfl | rfl | rfl | rfl
  · exact idxP0 x y w
  · exact idxP1 x y w
  · exact idxP2 x y w
  · exact idxP3 x y w
set_option maxRecDepth 100000 in
set_option maxHeartbeats 4000000 in
theorem neighboursOf_any (f : Fd) (hf : f.Wf) (hok : okF f = true) (m : Nat) (hm : m < 100) (w : World) : Calls Tryd.prog 57 #[.agg (fcells f), .int .i64 m] w fun e w' => ∃ v, e = .returned v ∧ Lst w.heap.size w' v (nlist f m 4) ∧ Below w.heap.size w w' := by
  obtain ⟨i0, hi, hz0, hz1, hz2⟩ := info_parts infoI64
  obtain ⟨x, hx⟩ : ∃ x : Int, (m : Int) % 10 = x := ⟨_, rfl⟩
  obtain ⟨y, hy⟩ : ∃ y : Int, (m : Int) / 10 = y := ⟨_, rfl⟩
  have hx1 : 0 ≤ x ∧ x ≤ 9 := by omega
  have hy1 : 0 ≤ y ∧ y ≤ 9 := by omega
  have hnok : Hid (∀ k, nok f m k = placeIn f (nx x k) (ny y k)) := Lib.hid (fun k => by unfold nok; rw [hx, hy])
  have hnval : Hid (∀ k, nval m k = nx x k + 10 * ny y k) := Lib.hid (fun k => by unfold nval; rw [hx, hy])
  go_enter Tryd.func57, Tryd.ntmps57
  go_upto_region 1 with (fail)
  obtain ⟨W2, hW, M⟩ := open1 w (fcells f) 32
  rw [hW]; clear hW
  have M3 := Lib.hid M
  go_upto_region 3 with (go_at_call 81; refine (placeOf_nat m hm _).mono ?_; rintro e w3 ⟨rfl, rfl⟩; rw [hx, hy])
  have hlt0 := (M3.out.at 0 rfl).lt
  have hsz0 := M3.out.below.size
  clear M
  go_wp2_with fail
  go_loopw [7, 32] (fun v i wr => ∃ k : Nat, k ≤ 4 ∧ i = .int .i64 k ∧ Lst W2.heap.size wr v (nlist f m k) ∧ Hid (Mem w wr [⟨w.heap.size, fcells f, 32⟩]) ∧ W2.heap.size ≤ wr.heap.size) (fun _ i _ => 4 - (intOf i).toNat)
  case atStart => exact ⟨0, Nat.zero_le _, rfl, Lst.nil, M3, Nat.le_refl _⟩
  case round =>
    obtain ⟨k, hk, rfl, hown, hM, hsz⟩ := hrel
    by_cases hlt : k < 4
    · have hle := nlist_le f m k
      go_upto_region 6 with (rw [idxN x y k hlt]; go_simp)
      have M5 := hM.out.alloc #[.int .i64 (nx x k), .int .i64 (ny y k)] 109
      have hown5 := World.ownsRow.alloc hown (.cells #[.int .i64 (nx x k), .int .i64 (ny y k)] 109)
      have hs5 : W2.heap.size ≤ (wr.alloc (.cells #[.int .i64 (nx x k), .int .i64 (ny y k)] 109)).heap.size := by simp; omega
      have hb5 : Below W2.heap.size wr (wr.alloc (.cells #[.int .i64 (nx x k), .int .i64 (ny y k)] 109)) := (Below.refl _ _).alloc hsz _
      obtain ⟨bp, hbp⟩ : ∃ bp, bp = wr.heap.size := ⟨_, rfl⟩
      rw [← hbp] at M5 ⊢
      generalize wr.alloc (.cells #[.int .i64 (nx x k), .int .i64 (ny y k)] 109) = W5 at M5 hown5 hs5 hb5 ⊢
      have c0 := (M5.at 1 rfl).cell (i := 0) rfl
      have c1 := (M5.at 1 rfl).cell (i := 1) rfl
      clear hbp
      cases hq : placeIn f (nx x k) (ny y k) with
      | false =>
        have hno : Hid (nok f m k = false) := Lib.hid (by rw [hnok.out, hq])
        go_wp2_with (first
          | (refine wpList_load_part rfl 32 _ rfl w.heap.size 0 rfl (fcells f) _ (M5.at 0 rfl).whole Tryd.underlying32 rfl (by rw [fcells_size]; exact sizeFd) ?_)
          | (go_at_call 85; refine (hasPlace_any f hf _ _ _).mono ?_; rintro e W6 ⟨rfl, hb6⟩; rw [hq]))
        go_roundw
        case rel =>
          have hb7 := hb5.trans (hb6.mono hs5)
          exact ⟨k + 1, by omega, by go_num, by rw [nlist_miss hno.out]; exact Lst.later hown5 hb6, Lib.hid (hM.out.lower1 hb7 hsz0 hlt0), Nat.le_trans hs5 hb6.size⟩
        case measure => simp [intOf]; omega
      | true =>
        have hyes : Hid (nok f m k = true) := Lib.hid (by rw [hnok.out, hq])
        have hxy : (0 ≤ nx x k ∧ nx x k ≤ 1000) ∧ (0 ≤ ny y k ∧ ny y k ≤ 1000) := by
          simp only [placeIn, Bool.and_eq_true, decide_eq_true_eq] at hq
          have := okF_size hok
          omega
        go_wp2_with (first
          | (refine wpList_load_part rfl 32 _ rfl w.heap.size 0 rfl (fcells f) _ (M5.at 0 rfl).whole Tryd.underlying32 rfl (by rw [fcells_size]; exact sizeFd) ?_)
          | (go_at_call 85; refine (hasPlace_any f hf _ _ _).mono ?_; rintro e W6 ⟨rfl, hb6⟩; rw [hq]; have M6 := M5.call hb6; have d0 := (M6.at 1 rfl).cell (i := 0) rfl; have d1 := (M6.at 1 rfl).cell (i := 1) rfl; have hown6 := Lst.later hown5 hb6; have hs6 := Nat.le_trans hs5 hb6.size)
          | (go_at_call 86; refine (cellAt_any _ _ hxy.1 hxy.2 _).mono ?_; rintro e w7 ⟨rfl, rfl⟩)
          | (at_builtin; refine wpList_append_own _ rfl _ _ 39 rfl W2.heap.size 2 i0 (.int .i64 0) 1 8 Tryd.underlying39 hi hz0 hz1 hz2 rfl (by decide) _ _ _ rfl (World.ownsRow.alloc hown6 _) ⟨W6.heap.size, 0, none⟩ 1 1 [.int .i64 (nx x k + 10 * ny y k)] rfl rfl (cell_one_new _ _ _) (by simp [Value.oneCell']) (by unfold maxLen; omega) (by omega) (by simp; omega) ?_; intro v' w1 hown' hgrow _))
        have hb1 := app_below hown6 hs6 hgrow
        go_roundw
        case rel =>
          have hb7 := (hb5.trans (hb6.mono hs5)).trans hb1
          refine ⟨k + 1, by omega, by go_num, ?_, Lib.hid (hM.out.lower1 hb7 hsz0 hlt0), Nat.le_trans hs6 hb1.size⟩
          rw [nlist_hit hyes.out, hnval.out]
          exact Lst.snoc hown'
        case measure => simp [intOf]; omega
    · obtain rfl : k = 4 := by omega
      go_wp2_with fail
      go_ret
      exact ⟨_, rfl, World.ownsRow.mono hown hsz0, hM.out.below⟩
set_option maxRecDepth 100000 in
set_option maxHeartbeats 4000000 in
theorem implNeighboursOf (f : Fd) (hf : f.Wf) (c : Int) (h1 : -9223372036854775808 ≤ c) (h2 : c ≤ 9223372036854775807) (A : Nat → Addr) (w : World) (S0 : Sents w A) : Calls Tryd.prog 14 #[.agg (fcells f), .int .i64 c] w fun e w' => ∃ v, e = .returned (.tuple #[v, .int .i64 (asked f c true)]) ∧ Lst w.heap.size w' v (nbrs f c) ∧ Below w.heap.size w w' := by
  have S : Hid (Sents w A) := Lib.hid S0
  clear S0
  have hif := isIfaceErr
  have hg : Hid (∀ i, i < 1 → -9223372036854775808 ≤ (fun _ : Nat => c) i ∧ (fun _ : Nat => c) i ≤ 9223372036854775807) := Lib.hid (fun i _ => ⟨h1, h2⟩)
  cases hok : okF f with
  | false =>
    have ha : asked f c true = 1 := by simp [asked, hok]
    rw [nbrs_bad (by omega), ha]; clear ha
    go_enter Tryd.func14, Tryd.ntmps14
    go_upto_region 1 with (fail)
    obtain ⟨W, hW, M⟩ := open1 w (fcells f) 32
    rw [hW]; clear hW
    go_wp2_with (first
      | (refine wpList_load_part rfl 32 _ rfl w.heap.size 0 rfl (fcells f) _ (M.at 0 rfl).whole Tryd.underlying32 rfl (by rw [fcells_size]; exact sizeFd) ?_)
      | (go_at_call 46; refine (checkCells_bad f hf hok A _ _ (S.out.later (M.alloc _ _).below)).mono ?_; rintro e W2 ⟨rfl, hb⟩; have M2 := (M.alloc _ _).call hb)
      | (go_at_call 47; refine (codeOf_err A 1 (by omega) (by omega) _ (S.out.later M2.below)).mono ?_; rintro e W3 ⟨rfl, rfl⟩))
    go_ret2
    exact ⟨_, rfl, Lst.nil, M2.below⟩
  | true =>
    cases hc : isCell f c with
    | false =>
      have ha : asked f c true = 2 := by simp [asked, hok, hc]
      have hal : allTo 1 (fun i => isCell f ((fun _ : Nat => c) i)) = false := by simp [allTo, hc]
      rw [nbrs_bad (by omega), ha]; clear ha
      go_enter Tryd.func14, Tryd.ntmps14
      go_upto_region 1 with (fail)
      obtain ⟨W, hW, M⟩ := open1 w (fcells f) 32
      rw [hW]; clear hW
      go_wp2_with (first
        | (refine wpList_load_part rfl 32 _ rfl w.heap.size 0 rfl (fcells f) _ (M.at 0 rfl).whole Tryd.underlying32 rfl (by rw [fcells_size]; exact sizeFd) ?_)
        | (go_at_call 46; refine (checkCells_ok f hf hok 1 (by omega) (fun _ => c) hg.out A _ _ _ (Blk.new _ _ _) (S.out.later (M.alloc _ _).below)).mono ?_; rintro e W2 ⟨rfl, hb⟩; rw [hal, errIf_false]; have M2 := (M.alloc _ _).call hb)
        | (go_at_call 47; refine (codeOf_err A 2 (by omega) (by omega) _ (S.out.later M2.below)).mono ?_; rintro e W3 ⟨rfl, rfl⟩))
      go_ret2
      exact ⟨_, rfl, Lst.nil, M2.below⟩
    | true =>
      have ha : asked f c true = 0 := by simp [asked, hok, hc]
      have hal : allTo 1 (fun i => isCell f ((fun _ : Nat => c) i)) = true := by simp [allTo, hc]
      obtain ⟨m, hm, rfl⟩ := cell_nat hc
      rw [nbrs_ok ha, ha]; clear ha
      have ok0 : True := trivial
      have ok1 : True := trivial
      go_enter Tryd.func14, Tryd.ntmps14
      go_upto_region 1 with (fail)
      obtain ⟨W, hW, M⟩ := open1 w (fcells f) 32
      rw [hW]; clear hW
      go_wp2_with (first
        | (clear ok0; refine wpList_load_part rfl 32 _ rfl w.heap.size 0 rfl (fcells f) _ (M.at 0 rfl).whole Tryd.underlying32 rfl (by rw [fcells_size]; exact sizeFd) ?_)
        | (go_at_call 46; refine (checkCells_ok f hf hok 1 (by omega) (fun _ => (m : Int)) hg.out A _ _ _ (Blk.new _ _ _) (S.out.later (M.alloc _ _).below)).mono ?_; rintro e W2 ⟨rfl, hb⟩; rw [hal, errIf_true]; have M2 := (M.alloc _ _).call hb; clear hb)
        | (clear ok1; refine wpList_load_part rfl 32 _ rfl w.heap.size 0 rfl (fcells f) _ (M2.at 0 rfl).whole Tryd.underlying32 rfl (by rw [fcells_size]; exact sizeFd) ?_)
        | (go_at_call 57; refine (neighboursOf_any f hf hok m hm _).mono ?_; rintro e W3 ⟨v, rfl, ho, hb⟩; have HO := Lib.hid ho; have s2 := M2.below.size; have M3 := M2.call hb; clear ho hb))
      go_ret2
      exact ⟨_, rfl, World.ownsRow.mono HO.out s2, M3.below⟩
end Go.Proofs.YtcaeihhdapghkaaDoor
