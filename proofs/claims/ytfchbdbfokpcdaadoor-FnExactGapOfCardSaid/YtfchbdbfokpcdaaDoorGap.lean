/-
  Gaps: the model's l05Gap, the program's gapOf.
-/
import Derived.Test.YtfchbdbfokpcdaaDoorSeenS
import Derived.Test.YtfchbdbfokpcdaaDoorGapM
import Derived.Deep.QuietTactic
namespace Go.Proofs.YtfchbdbfokpcdaaDoor
open Go Go.RowKit

theorem minL_S (n : Nat) (g : Nat → Int) (s : Int) (c W : Nat) : ∀ k, minL n g s c W k = minS (seenB n g s c W) k
  | 0 => rfl
  | k + 1 => by rw [minL, minS, minL_S n g s c W k]
theorem mxMax_any (a b : Int) (w : World) : Calls Tryd.prog 30 #[.int .i64 a, .int .i64 b] w fun e w' => e = .returned (.int .i64 (max a b)) ∧ w = w' := by
  by_cases h : b < a
  · go_enter Tryd.func30, Tryd.ntmps30
    go_wp2_with fail
    go_ret
    exact ⟨ret_int (by omega), rfl⟩
  · have hd : decide (b < a) = false := decide_eq_false h
    go_enter Tryd.func30, Tryd.ntmps30
    go_wp2_with fail
    go_ret
    exact ⟨ret_int (by omega), rfl⟩
set_option maxHeartbeats 8000000 in
theorem l05Gap_any (n : Nat) (hn1 : 1 ≤ n) (hn2 : n ≤ 40) (g : Nat → Int) (hg : CellsG n g) (s : Int) (hs : 0 ≤ s ∧ s ≤ 50) (cell : Nat) (hc : cell < 100) (W : Nat) (hW : 1 ≤ W ∧ W ≤ 8) (b c : Nat) (w : World) (I : InH w b 0 n g) :
    Calls Tryd.prog 21 #[.slice (some ⟨b, 0, none⟩) n c, .int .i64 s, .int .i64 cell, .int .i64 W] w fun e w' => e = .returned (.int .i64 (gmax n (seenB n g s cell W) n : Nat)) ∧ Below w.heap.size w w' := by
  obtain ⟨S, hS⟩ : ∃ S, seenB n g s cell W = S := ⟨_, rfl⟩
  go_enter Tryd.func21, Tryd.ntmps21
  go_wp2_with (go_at_call 29; refine (l05Seen_any n hn1 hn2 g hg s hs cell hc W hW b c _ I).mono ?_; rintro e w1 ⟨b', rfl, hB, hb⟩; rw [hS] at hB; have HB := Lib.hid hB; have HBE := Lib.hid hb; clear hB hb)
  have HS := Lib.hid hS
  clear hS
  go_loop [10, 11, 12] (fun v i _ => ∃ k : Nat, k ≤ n ∧ i = .int .i64 k ∧ v = .int .i64 ((gmax n S k : Nat) : Int)) (fun _ i _ => n - (intOf i).toNat)
  case atStart => exact ⟨0, by omega, rfl, rfl⟩
  case round =>
    obtain ⟨k, hk, rfl, rfl⟩ := hrel
    by_cases hlt : k < n
    · have c0 := HB.out.cell (bcells_get n S k hlt)
      cases hq : S k with
      | false =>
        rw [hq] at c0
        have e := Lib.hid (gmax_no (n := n) hq)
        go_wp2_with fail
        go_round
        case rel => exact ⟨k + 1, by omega, by go_num, by rw [e.out]⟩
        case measure => simp [intOf]; omega
      | true =>
        rw [hq] at c0
        have e := Lib.hid (gmax_yes (n := n) hq)
        obtain ⟨d1, d2, d3, d4⟩ := dOf_in hlt hq
        obtain ⟨d, hd⟩ : ∃ d, dOf n S k = d := ⟨_, rfl⟩
        rw [hd] at d1 d2 d3 d4 e
        have HD4 := Lib.hid d4
        have HD3 := Lib.hid d3
        have gb := gmax_bound (S := S) (k := k) (n := n) (by omega)
        obtain ⟨G, hG⟩ : ∃ G, gmax n S k = G := ⟨_, rfl⟩
        rw [hG] at e gb
        have HG := Lib.hid hG
        rw [hG]
        clear hd d4 d3 hG hq
        go_wp2_with fail
        go_loop [12] (fun m => ∃ q : Nat, 1 ≤ q ∧ q ≤ d ∧ m = .int .i64 q) (fun m => d - (intOf m).toNat)
        case atStart => exact ⟨1, by omega, d1, rfl⟩
        case round =>
          obtain ⟨q, hq1, hq2, rfl⟩ := hrel
          obtain ⟨x, hx⟩ : ∃ x, (k + q) % n = x := ⟨_, rfl⟩
          have hxn : x < n := by rw [← hx]; exact Nat.mod_lt _ (by omega)
          have hmod : ((k : Int) + (q : Int)) % (n : Int) = (x : Int) := by rw [← hx, Int.natCast_emod, Int.natCast_add]
          have c1 := HB.out.cell (bcells_get n S x hxn)
          have HX := Lib.hid hx
          clear hx
          by_cases hqd : q < d
          · rw [show S x = false by rw [← HX.out]; exact HD4.out q hq1 hqd] at c1
            go_wp2_with fail
            clear hmod
            go_round
            case rel => exact ⟨q + 1, by omega, by omega, by go_num⟩
            case measure => simp [intOf]; omega
          · obtain rfl : q = d := by omega
            rw [show S x = true by rw [← HX.out]; exact HD3.out] at c1
            go_wp2_with (go_at_call 30; refine (mxMax_any _ _ _).mono ?_; rintro e w' ⟨rfl, rfl⟩)
            clear hmod
            go_round
            case rel => exact ⟨k + 1, by omega, by go_num, by rw [e.out]; congr 1; omega⟩
            case measure => simp [intOf]; omega
    · obtain rfl : k = n := by omega
      go_wp2_with fail
      go_ret
      exact ⟨by rw [HS.out]; rfl, HBE.out⟩
set_option maxHeartbeats 8000000 in
theorem gapOf_any (n : Nat) (hn1 : 1 ≤ n) (hn2 : n ≤ 40) (g : Nat → Int) (hg : CellsG n g) (s : Int) (hs : 0 ≤ s ∧ s ≤ 50) (cell : Nat) (hc : cell < 100) (W : Nat) (hW : 1 ≤ W ∧ W ≤ 8) (b c : Nat) (w : World) (I : InH w b 0 n g) :
    Calls Tryd.prog 25 #[.slice (some ⟨b, 0, none⟩) n c, .int .i64 s, .int .i64 cell, .int .i64 W] w fun e w' => e = .returned (.int .i64 (gmax n (seenB n g s cell W) n : Nat)) ∧ Below w.heap.size w w' := by
  obtain ⟨S, hS⟩ : ∃ S, seenB n g s cell W = S := ⟨_, rfl⟩
  have hLe : minL n g s cell W n = minS S n := by rw [minL_S, hS]
  have HLe := Lib.hid hLe
  have hlen := minL_le n g s cell W n
  rw [hLe] at hlen
  have HS := Lib.hid hS
  clear hS hLe
  obtain ⟨L, hL⟩ : ∃ L, minS S n = L := ⟨_, rfl⟩
  have HL := Lib.hid hL
  rw [hL] at hlen
  clear hL
  obtain ⟨r, hr⟩ : ∃ r, L.length = r := ⟨_, rfl⟩
  rw [hr] at hlen
  have HR := Lib.hid hr
  clear hr
  by_cases hr0 : r = 0
  · subst hr0
    have hz : Hid (gmax n (seenB n g s cell W) n = 0) := Lib.hid (by rw [HS.out]; exact gmax_none (fun p hp => minS_nil (by rw [HL.out]; exact HR.out) hp))
    go_enter Tryd.func25, Tryd.ntmps25
    go_wp2_with (go_at_call 36; refine (minutesOf_any n hn1 hn2 g hg s hs cell hc W hW b c _ I).mono ?_; rintro e w1 ⟨v, rfl, ho, hb⟩; rw [HLe.out, HL.out, HR.out] at ho; obtain ⟨p, cp, rfl, _, _⟩ := Nown HR.out ho; have HBE := Lib.hid hb; clear ho hb)
    go_ret
    exact ⟨by rw [hz.out]; rfl, HBE.out⟩
  · obtain ⟨l, l1, l2, l3, l4⟩ := minS_last (S := S) (n := n) (by rw [HL.out, HR.out]; omega)
    rw [HL.out, HR.out] at l4
    have HL2 := Lib.hid l2
    have HL3 := Lib.hid l3
    have HL4 := Lib.hid l4
    have hre : ((r : Int) == 0) = false := by simpa using hr0
    have hri : (r : Int) - 1 = ((r - 1 : Nat) : Int) := by omega
    have hri2 : r - 1 < r := by omega
    clear l2 l3 l4
    go_enter Tryd.func25, Tryd.ntmps25
    go_upto_region 4 with (go_at_call 36; refine (minutesOf_any n hn1 hn2 g hg s hs cell hc W hW b c _ I).mono ?_; rintro e w1 ⟨v, rfl, ho, hb⟩; rw [HLe.out, HL.out, HR.out] at ho; obtain ⟨p, cp, rfl, hV, _⟩ := Nown HR.out ho; have HV := Lib.hid hV; have HBE := Lib.hid hb; clear ho hb hV)
    obtain ⟨bb, oo, rfl, _, _, hcell⟩ : ∃ bb oo, p = some ⟨bb, oo, none⟩ ∧ w.heap.size ≤ bb ∧ bb < w1.heap.size ∧ ∀ i, i < r → w1.cell? ⟨bb, oo + i, none⟩ = some (.int .i64 (L.getD i 0)) := by
      rcases HV.out with h0 | ⟨bb, oo, h1, h2, h3, h4⟩
      · exact absurd h0 hr0
      · exact ⟨bb, oo, h1, h2, h3, h4⟩
    have HC := Lib.hid hcell
    have c0 := hcell (r - 1) hri2
    rw [show L.getD (r - 1) 0 = (l : Int) by rw [List.getD_eq_getElem?_getD, HL4.out]; rfl] at c0
    clear hcell
    go_quiet ((go_at_call 37; exact Calls.quiet_of_same ((length_any _ n c _).mono (fun e w9 h9 => ⟨h9.1, h9.2.symm⟩))))
    clear c0 hri hri2 hre
    rename_i nq
    obtain ⟨W2, hW2⟩ : ∃ W2, w1.drewN nq = W2 := ⟨_, rfl⟩
    have HC2 : Hid (∀ i, i < r → W2.cell? ⟨bb, oo + i, none⟩ = some (.int .i64 (L.getD i 0))) := Lib.hid (by rw [← hW2]; exact HC.out)
    have HB2 : Hid (Below w.heap.size w W2) := Lib.hid (by rw [← hW2]; exact below_drewN _ HBE.out)
    rw [hW2]
    clear hW2 HC HBE
    go_wp2_with fail
    go_loop [10, 11, 13, 33] (fun bv gv _ i => ∃ (j k : Nat) (bI : Int) (G : Nat), j ≤ r ∧ i = .int .i64 j ∧ bv = .int .i64 bI ∧ gv = .int .i64 (G : Int) ∧ k ≤ n ∧ -40 ≤ bI ∧ bI ≤ 40 ∧ G ≤ 40 ∧ Hid ((minS S k).length = j) ∧ Hid (prevP n S k bI) ∧ Hid (gapP n S k G)) (fun _ _ _ i => r - (intOf i).toNat)
    case atStart => exact ⟨0, 0, (l : Int) - (n : Int), 0, by omega, rfl, rfl, rfl, by omega, by omega, by omega, by omega, Lib.hid rfl, Lib.hid (.inr ⟨fun q hq => by omega, l, l1, HL2.out, HL3.out, rfl⟩), Lib.hid (gapP_zero n S)⟩
    case round =>
      obtain ⟨j, k, bI, G, hj, rfl, rfl, rfl, hk, hb1, hb2, hG, hjk, hP, hGP⟩ := hrel
      by_cases hlt : j < r
      · obtain ⟨m, m1, m2, m3, m4⟩ := minS_at (S := S) (n := n) (i := j) (by rw [HL.out, HR.out]; exact hlt)
        have c0 := HC2.out j hlt
        rw [show L.getD j 0 = (m : Int) by rw [List.getD_eq_getElem?_getD, ← HL.out, m3]; rfl] at c0
        have hkm : k ≤ m := by
          by_cases h : k ≤ m
          · exact h
          · have h1 := minS_mono (S := S) (show m + 1 ≤ k by omega)
            rw [minS_yes m2, List.length_append, hjk.out, m4, List.length_singleton] at h1
            omega
        obtain ⟨d, e1, e2, e3, e4⟩ := gap_step hkm m1 m2 (fun q q1 q2 => minS_same (hjk.out.trans m4.symm) q1 q2) hP.out hGP.out
        have E3 := Lib.hid e3
        have E4 := Lib.hid e4
        have E5 : Hid ((minS S (m + 1)).length = j + 1) := Lib.hid (by rw [minS_yes m2, List.length_append, m4]; rfl)
        clear m2 m3 m4 e3 e4 hjk hP hGP
        go_wp2_with fail
        go_round
        case rel => exact ⟨j + 1, m + 1, (m : Int), max G d, by omega, by go_num, rfl, by congr 1; split <;> omega, by omega, by omega, by omega, by omega, E5, E3, E4⟩
        case measure => simp [intOf]; omega
      · obtain rfl : j = r := by omega
        have hz : Hid (gmax n (seenB n g s cell W) n = G) := Lib.hid (by rw [HS.out]; exact gap_end (fun q q1 q2 => minS_same (by rw [hjk.out, HL.out, HR.out]) q1 q2) hGP.out)
        go_wp2_with fail
        go_ret
        exact ⟨by rw [hz.out]; rfl, HB2.out⟩
end Go.Proofs.YtfchbdbfokpcdaaDoor
