/-
  Gaps: the model's l05Gap, the program's gapOf.
-/
import Derived.Test.YtdjbaajcgipebaaDoorSeenS
import Derived.Test.YtdjbaajcgipebaaDoorGapM
import Derived.Deep.QuietTactic
namespace Go.Proofs.YtdjbaajcgipebaaDoor
open Go Go.RowKit

theorem minL_S (n : Nat) (g : Nat → Int) (s : Int) (c W : Nat) : ∀ k, minL n g s c W k = minS (seenB n g s c W) k
  | 0 => rfl
  | k + 1 => by rw [minL, minS, minL_S n g s c W k]
theorem mxMax_any (a b : Int) (w : World) : Calls Tryd.prog 78 #[.int .i64 a, .int .i64 b] w fun e w' => e = .returned (.int .i64 (max a b)) ∧ w = w' := by
  by_cases h : b < a
  · go_enter Tryd.func78, Tryd.ntmps78
    go_wp2_with fail
    go_ret
    exact ⟨ret_int (by omega), rfl⟩
  · have hd : decide (b < a) = false := decide_eq_false h
    go_enter Tryd.func78, Tryd.ntmps78
    go_wp2_with fail
    go_ret
    exact ⟨ret_int (by omega), rfl⟩
set_option maxHeartbeats 8000000 in
theorem l05Gap_any (n : Nat) (hn1 : 1 ≤ n) (hn2 : n ≤ 40) (g : Nat → Int) (hg : CellsG n g) (s : Int) (hs : 0 ≤ s ∧ s ≤ 50) (cell : Nat) (hc : cell < 100) (W : Nat) (hW : 1 ≤ W ∧ W ≤ 8) (b c : Nat) (w : World) (I : InH w b 0 n g) :
    Calls Tryd.prog 57 #[.slice (some ⟨b, 0, none⟩) n c, .int .i64 s, .int .i64 cell, .int .i64 W] w fun e w' => e = .returned (.int .i64 (gmax n (seenB n g s cell W) n : Nat)) ∧ Below w.heap.size w w' := by
  obtain ⟨S, hS⟩ : ∃ S, seenB n g s cell W = S := ⟨_, rfl⟩
  go_enter Tryd.func57, Tryd.ntmps57
  go_wp2_with (go_at_call 54; refine (l05Seen_any n hn1 hn2 g hg s hs cell hc W hW b c _ I).mono ?_; rintro e w1 ⟨b', rfl, hB, hb⟩; rw [hS] at hB; have HB := Lib.hid hB; have HBE := Lib.hid hb; clear hB hb)
  have HS := Lib.hid hS
  clear hS
  go_loop [10, 11, 12] (fun v i _ => ∃ k : Nat, k ≤ n ∧ i = .int .i64 k ∧ v = .int .i64 ((gmax n S k : Nat) : Int)) (fun _ i _ => n - (intOf i).toNat)
  case atStart => exact ⟨0, by omega, rfl, rfl⟩
  case round =>
    obtain ⟨k, hk, rfl, rfl⟩ := hrel
    by_cases hlt : k < n
    · have c0 := HB.out.cell (bcells_get n S k hlt)
      cases hq : S k with
      | false =>
        rw [hq] at c0
        have e := Lib.hid (gmax_no (n := n) hq)
        go_wp2_with fail
        go_round
        case rel => exact ⟨k + 1, by omega, by go_num, by rw [e.out]⟩
        case measure => simp [intOf]; omega
      | true =>
        rw [hq] at c0
        have e := Lib.hid (gmax_yes (n := n) hq)
        obtain ⟨d1, d2, d3, d4⟩ := dOf_in hlt hq
        obtain ⟨d, hd⟩ : ∃ d, dOf n S k = d := ⟨_, rfl⟩
        rw [hd] at d1 d2 d3 d4 e
        have HD4 := Lib.hid d4
        have HD3 := Lib.hid d3
        have gb := gmax_bound (S := S) (k := k) (n := n) (by omega)
        obtain ⟨G, hG⟩ : ∃ G, gmax n S k = G := ⟨_, rfl⟩
        rw [hG] at e gb
        have HG := Lib.hid hG
        rw [hG]
        clear hd d4 d3 hG hq
        go_wp2_with fail
        go_loop [12] (fun m => ∃ q : Nat, 1 ≤ q ∧ q ≤ d ∧ m = .int .i64 q) (fun m => d - (intOf m).toNat)
        case atStart => exact ⟨1, by omega, d1, rfl⟩
        case round =>
          obtain ⟨q, hq1, hq2, rfl⟩ := hrel
          obtain ⟨x, hx⟩ : ∃ x, (k + q) % n = x := ⟨_, rfl⟩
          have hxn : x < n := by rw [← hx]; exact Nat.mod_lt _ (by omega)
          have hmod : ((k : Int) + (q : Int)) % (n : Int) = (x : Int) := by rw [← hx, Int.natCast_emod, Int.natCast_add]
          have c1 := HB.out.cell (bcells_get n S x hxn)
          have HX := Lib.hid hx
          clear hx
          by_cases hqd : q < d
          · rw [show S x = false by rw [← HX.out]; exact HD4.out q hq1 hqd] at c1
            go_wp2_with fail
            clear hmod
            go_round
            case rel => exact ⟨q + 1, by omega, by omega, by go_num⟩
            case measure => simp [intOf]; omega
          · obtain rfl : q = d := by omega
            rw [show S x = true by rw [← HX.out]; exact HD3.out] at c1
            go_wp2_with (go_at_call 78; refine (mxMax_any _ _ _).mono ?_; rintro e w' ⟨rfl, rfl⟩)
            clear hmod
            go_round
            case rel => exact ⟨k + 1, by omega, by go_num, by rw [e.out]; congr 1; omega⟩
            case measure => simp [intOf]; omega
    · obtain rfl : k = n := by omega
      go_wp2_with fail
      go_ret
      exact ⟨by rw [HS.out]; rfl, HBE.out⟩
end Go.Proofs.YtdjbaajcgipebaaDoor
