/-
  BoundsOfLoss: the model's, the program's.
-/
import Derived.Test.YtpiejcibjphffaaDoorPairA
import Derived.Test.YtpiejcibjphffaaDoorNums
namespace Go.Proofs.YtpiejcibjphffaaDoor
open Go Go.RowKit Go.Shelf
attribute [local go_sem] Oper.semAt_some

def loN (f g : Fd) (c : Nat → Int) (i : Nat) : Int := if hasC c (i : Int) = true then lossN f g i else 0
def hiN (f g : Fd) (c : Nat → Int) (i : Nat) : Int := if hasC c (i : Int) = true then lossN f g i else f.S i
def restN (f : Fd) (c : Nat → Int) (i : Nat) : Int := if hasC c (i : Int) = true then 0 else f.S i
def boundLo (f g : Fd) (c : Nat → Int) : Int := if pairCode f g = 0 then totTo (loN f g c) 100 else 0
def boundHi (f g : Fd) (c : Nat → Int) : Int := if pairCode f g = 0 then totTo (hiN f g c) 100 else 0
theorem hi_split (f g : Fd) (c : Nat → Int) : ∀ n, totTo (hiN f g c) n = totTo (loN f g c) n + totTo (restN f c) n
  | 0 => rfl
  | n + 1 => by
    rw [totTo_succ, totTo_succ, totTo_succ, hi_split f g c n]
    unfold hiN loN restN
    split <;> omega
theorem loN_in {f g : Fd} {c : Nat → Int} (h1 : okF f = true) (h2 : okF g = true) {i : Nat} (hi : i < 100) : -1000 ≤ loN f g c i ∧ loN f g c i ≤ 1000 := by
  have := lossN_in h1 h2 hi; unfold loN; split <;> omega
theorem hiN_in {f g : Fd} {c : Nat → Int} (h1 : okF f = true) (h2 : okF g = true) {i : Nat} (hi : i < 100) : -1000 ≤ hiN f g c i ∧ hiN f g c i ≤ 1000 := by
  have := lossN_in h1 h2 hi; have := ok_seeds h1 hi; unfold hiN; split <;> omega
theorem restN_in {f : Fd} {c : Nat → Int} (h1 : okF f = true) {i : Nat} (hi : i < 100) : 0 ≤ restN f c i ∧ restN f c i ≤ 1000 := by
  have := ok_seeds h1 hi; unfold restN; split <;> omega
theorem totX_nums (f g : Fd) (c : Nat → Int) : ∀ n, n ≤ 100 → totX f g (fun x : NumOf c => x.1) (numsTo c n) = totTo (loN f g c) n
  | 0, _ => rfl
  | n + 1, hn => by
    have ih := totX_nums f g c n (by omega)
    cases hc : hasC c (n : Int) with
    | true => rw [numsTo_yes ⟨by omega, hc⟩, totX_snoc, ih, totTo_succ]; unfold loN; rw [if_pos hc]
    | false => rw [numsTo_no hc, ih, totTo_succ]; unfold loN; rw [if_neg (by rw [hc]; decide)]; omega

set_option maxRecDepth 100000 in
set_option maxHeartbeats 8000000 in
theorem specBoundsOfLoss (f g : Fd) (hf : f.Wf) (hg : g.Wf) (c : Nat → Int) (w : World) : Calls Tryd.prog 30 #[.agg (fcells f), .agg (fcells g), .agg (acells .u64 2 c)] w fun e w' => e = .returned (.tuple #[.int .i64 (boundLo f g c), .int .i64 (boundHi f g c), .int .i64 (pairCode f g)]) ∧ Below w.heap.size w w' := by
  unfold boundLo boundHi
  by_cases h0 : pairCode f g = 0
  · rw [if_pos h0, if_pos h0]
    have hp := Lib.hid h0
    obtain ⟨h1, h2, _, _⟩ := pairCode_fine h0
    have H1 := Lib.hid h1
    have H2 := Lib.hid h2
    clear h0 h1 h2
    go_enter Tryd.func30, Tryd.ntmps30
    go_upto_region 1 with (fail)
    obtain ⟨W, hW, M⟩ := open3 w (fcells f) 30 (fcells g) 30 (acells .u64 2 c) 38
    rw [hW]; clear hW
    have hz : Hid (Tryd.zeroCells25.size = 100) := Lib.hid (by rw [zeroS, acells_size])
    go_upto_region 5 with (first
      | (go_at_call 32; refine (l06Pair_any f g hf hg _ _ _ (M.at 0 rfl) (M.at 1 rfl)).mono ?_; rintro e W2 ⟨rfl, hb⟩; rw [hp.out]; have M2 := M.call hb; clear hb)
      | (go_at_call 33; refine (l06Loss_any f g H1.out H2.out _ _ _ (M2.at 0 rfl) (M2.at 1 rfl)).mono ?_; rintro e W3 ⟨rfl, hb⟩; have M3 := M2.call hb; clear hb; have M4 := M3.alloc Tryd.zeroCells25 25)
      | (refine wpList_store_row rfl 25 _ _ rfl W3.heap.size (acells .i16 100 (lossN f g)) rfl rfl 25 _ (M4.at 3 rfl) (by rw [acells_size]; exact sizeS) (by rw [acells_size, hz.out]) (acells_one _ _ _) ?_))
    have M5 := M4.row 3 rfl (acells .i16 100 (lossN f g))
    obtain ⟨b9, hb9⟩ : ∃ b9, b9 = W3.heap.size := ⟨_, rfl⟩
    rw [← hb9] at M5 ⊢
    generalize World.setRow _ _ _ = W5 at M5 ⊢
    clear M4 M3 M2 M hb9
    have M6 := Lib.hid M5
    clear M5
    go_wp2_with fail
    go_loop [11, 12, 13] (fun s h i => ∃ k : Nat, k ≤ 100 ∧ i = .int .i64 k ∧ s = .int .i64 (totTo (loN f g c) k) ∧ h = .int .i64 (totTo (hiN f g c) k)) (fun _ _ i => 100 - (intOf i).toNat)
    case atStart => exact ⟨0, by omega, rfl, rfl, rfl⟩
    case round =>
      obtain ⟨k, hk', rfl, rfl, rfl⟩ := hrel
      by_cases hlt : k < 100
      · have c1 := (M6.out.at 0 rfl).cell (fcells_S f k hlt)
        have c3 := (M6.out.at 3 rfl).cell (acells_get _ _ _ k hlt)
        obtain ⟨t1, t2⟩ := totTo_in (g := loN f g c) (a := -1000) (m := 1000) (n := k) (by omega) (by omega) (fun i hi => loN_in H1.out H2.out (by omega))
        obtain ⟨t3, t4⟩ := totTo_in (g := hiN f g c) (a := -1000) (m := 1000) (n := k) (by omega) (by omega) (fun i hi => hiN_in H1.out H2.out (by omega))
        obtain ⟨s1, s2⟩ := ok_seeds H1.out hlt
        obtain ⟨l1, l2⟩ := lossN_in H1.out H2.out hlt
        obtain ⟨v, hv⟩ : ∃ v, v = lossN f g k := ⟨_, rfl⟩
        rw [← hv] at l1 l2 c3
        have HV := Lib.hid hv
        clear hv
        have hk1 : (k : Int) < 100 := by omega
        cases hc : hasC c (k : Int) with
        | true =>
          have e1 := Lib.hid (show totTo (loN f g c) (k + 1) = totTo (loN f g c) k + v by rw [totTo_succ, HV.out]; unfold loN; rw [if_pos hc])
          have e2 := Lib.hid (show totTo (hiN f g c) (k + 1) = totTo (hiN f g c) k + v by rw [totTo_succ, HV.out]; unfold hiN; rw [if_pos hc])
          go_wp2_with (go_at_call 55; refine (l01Has_any c (k : Int) _ _ (M6.out.at 2 rfl)).mono ?_; rintro e w' ⟨rfl, rfl⟩; rw [hc])
          go_round
          case rel => exact ⟨k + 1, by omega, by go_num, by rw [e1.out], by rw [e2.out]⟩
          case measure => simp [intOf]; omega
        | false =>
          have e1 := Lib.hid (show totTo (loN f g c) (k + 1) = totTo (loN f g c) k by rw [totTo_succ]; unfold loN; rw [if_neg (by rw [hc]; decide)]; omega)
          have e2 := Lib.hid (show totTo (hiN f g c) (k + 1) = totTo (hiN f g c) k + f.S k by rw [totTo_succ]; unfold hiN; rw [if_neg (by rw [hc]; decide)])
          go_wp2_with (go_at_call 55; refine (l01Has_any c (k : Int) _ _ (M6.out.at 2 rfl)).mono ?_; rintro e w' ⟨rfl, rfl⟩; rw [hc])
          go_round
          case rel => exact ⟨k + 1, by omega, by go_num, by rw [e1.out], by rw [e2.out]⟩
          case measure => simp [intOf]; omega
      · obtain rfl : k = 100 := by omega
        obtain ⟨r1, hr1⟩ : ∃ x, totTo (loN f g c) 100 = x := ⟨_, rfl⟩
        obtain ⟨r2, hr2⟩ : ∃ x, totTo (hiN f g c) 100 = x := ⟨_, rfl⟩
        rw [hr1, hr2]
        have HR1 := Lib.hid hr1
        have HR2 := Lib.hid hr2
        clear hr1 hr2
        go_wp2_with fail
        go_ret3
        exact ⟨by rw [HR1.out, HR2.out, hp.out]; rfl, M6.out.below⟩
  · rw [if_neg h0, if_neg h0]
    have hne2 : (pairCode f g != 0) = true := by simpa using h0
    go_enter Tryd.func30, Tryd.ntmps30
    go_upto_region 1 with (fail)
    obtain ⟨W, hW, M⟩ := open3 w (fcells f) 30 (fcells g) 30 (acells .u64 2 c) 38
    rw [hW]; clear hW
    go_wp2_with (go_at_call 32; refine (l06Pair_any f g hf hg _ _ _ (M.at 0 rfl) (M.at 1 rfl)).mono ?_; rintro e W2 ⟨rfl, hb⟩; have M2 := M.call hb; clear hb)
    go_ret3
    exact ⟨rfl, M2.below⟩
end Go.Proofs.YtpiejcibjphffaaDoor
