/-
  The laws' comparisons and marks on visits.
-/
import Derived.Test.YtaioflkonpommaaDoorVis
import Derived.Test.YtaioflkonpommaaDoorFlkM
import Derived.RangeFuncNested
import Derived.Shelf.Abstract
namespace Go.Proofs.YtaioflkonpommaaDoor
open Go Go.RowKit

theorem eqVisit_same (F : Nat → Nat → Int) (i : Nat) (w : World) : Calls Tryd.prog 15 #[.agg (srow ksVisit F i), .agg (srow ksVisit F i)] w fun e w' => e = .returned (.bool true) ∧ Below w.heap.size w w' := by
  suffices ∀ a : Nat → Int, Calls Tryd.prog 15 #[vVisit a, vVisit a] w fun e w' => e = .returned (.bool true) ∧ Below w.heap.size w w' from this (F i)
  intro a
  go_enter Tryd.func15, Tryd.ntmps15
  go_wp2_with fail
  go_ret
  exact ⟨rfl, ((Below.refl _ _).alloc (Nat.le_refl _) _).alloc (by simp) _⟩
set_option maxRecDepth 100000 in
set_option maxHeartbeats 800000 in
theorem eqVisitS_same (n : Nat) (hn : n ≤ 2 ^ 40) (F : Nat → Nat → Int) (b d c e : Nat) (w : World) (I1 : InS w b 0 n ksVisit F) (I2 : InS w d 0 n ksVisit F) :
    Calls Tryd.prog 18 #[.slice (some ⟨b, 0, none⟩) n c, .slice (some ⟨d, 0, none⟩) n e] w fun e w' => e = .returned (.bool true) ∧ Below w.heap.size w w' := by
  have H1 := Lib.hid I1
  have H2 := Lib.hid I2
  clear I1 I2
  go_enter Tryd.func18, Tryd.ntmps18
  go_wp2_with fail
  go_loopw [5] (fun i wr => ∃ k : Nat, k ≤ n ∧ i = .int .i64 k ∧ Below w.heap.size w wr) (fun i _ => n - (intOf i).toNat)
  case atStart => exact ⟨0, by omega, rfl, Below.refl _ _⟩
  case round =>
    obtain ⟨k, hk, rfl, hb⟩ := hrel
    by_cases hlt : k < n
    · have g1 : Hid (∀ w', Below w.heap.size w w' → w'.rangeAt b (0 + k * 3) (srow ksVisit F k).toList) := Lib.hid (fun w' hw' => InS.elem (ks := ksVisit) H1.out (by decide) hw' hlt)
      have g2 : Hid (∀ w', Below w.heap.size w w' → w'.rangeAt d (0 + k * 3) (srow ksVisit F k).toList) := Lib.hid (fun w' hw' => InS.elem (ks := ksVisit) H2.out (by decide) hw' hlt)
      go_upto_region 6 with (fail)
      refine wp_region_rel (DL [dV (.slice (some ⟨b, 0, none⟩) n c), dV (.int .i64 k), dV (.pointer (some ⟨b, 0 + k * 3, none⟩)), dV (.agg (srow ksVisit F k)), dV (.slice (some ⟨d, 0, none⟩) n e), dV (.int .i64 k), dV (.pointer (some ⟨d, 0 + k * 3, none⟩)), dV (.agg (srow ksVisit F k)), dV (.bool true), dV (.bool false)]) (fun w' => Below w.heap.size w w') (by kernel_rfl) (by kernel_rfl) (fun _ _ h h' => h.trans (h'.mono h.size))
        (stays_DL (fun d hd => by
          simp only [List.mem_cons, List.mem_nil_iff, or_false] at hd
          rcases hd with rfl | rfl | rfl | rfl | rfl | rfl | rfl | rfl | rfl | rfl <;> exact stay_V)) hb.drew ?_
      refine rel_val _ rfl rfl (fun _ _ => rfl) (fun x0 => ?_)
      simp only [Act.put, List.setIfInBounds_toArray, List.set_cons_zero, List.set_cons_succ]
      refine rel_val _ rfl rfl (fun _ _ => rfl) (fun x1 => ?_)
      simp only [Act.put, List.setIfInBounds_toArray, List.set_cons_zero, List.set_cons_succ]
      refine rel_index 43 32 _ _ rfl b 0 n c 3 k rfl rfl hlt Tryd.underlying43 (by kernel_rfl) rfl rfl (fun x2 => ?_)
      simp only [Act.put, List.setIfInBounds_toArray, List.set_cons_zero, List.set_cons_succ]
      refine rel_load 32 _ rfl b (0 + k * 3) rfl (srow ksVisit F k) _ rfl rfl g1.out Tryd.underlying32 rfl (by rw [srow_size]; kernel_rfl) (fun x3 => ?_)
      simp only [Act.put, List.setIfInBounds_toArray, List.set_cons_zero, List.set_cons_succ]
      refine rel_val _ rfl rfl (fun _ _ => rfl) (fun x4 => ?_)
      simp only [Act.put, List.setIfInBounds_toArray, List.set_cons_zero, List.set_cons_succ]
      refine rel_val _ rfl rfl (fun _ _ => rfl) (fun x5 => ?_)
      simp only [Act.put, List.setIfInBounds_toArray, List.set_cons_zero, List.set_cons_succ]
      refine rel_index 43 32 _ _ rfl d 0 n e 3 k rfl rfl hlt Tryd.underlying43 (by kernel_rfl) rfl rfl (fun x6 => ?_)
      simp only [Act.put, List.setIfInBounds_toArray, List.set_cons_zero, List.set_cons_succ]
      refine rel_load 32 _ rfl d (0 + k * 3) rfl (srow ksVisit F k) _ rfl rfl g2.out Tryd.underlying32 rfl (by rw [srow_size]; kernel_rfl) (fun x7 => ?_)
      simp only [Act.put, List.setIfInBounds_toArray, List.set_cons_zero, List.set_cons_succ]
      refine rel_call _ 15 #[.agg (srow ksVisit F k), .agg (srow ksVisit F k)] rfl rfl rfl rfl (enters_of Tryd.func15 (by kernel_rfl) rfl) (fun w' _ => eqVisit_same F k w') (fun x8 => ?_)
      simp only [Act.put, List.setIfInBounds_toArray, List.set_cons_zero, List.set_cons_succ]
      refine rel_val _ rfl rfl (fun _ _ => rfl) (fun x9 => ?_)
      simp only [Act.put, List.setIfInBounds_toArray, List.set_cons_zero, List.set_cons_succ]
      refine rel_nil (fun w' inv => ?_)
      have hb' := inv.cls
      clear inv
      go_wp2_with fail
      go_roundw
      case rel => exact ⟨k + 1, by omega, by go_num, hb'⟩
      case measure => simp [intOf]; omega
    · obtain rfl : k = n := by omega
      go_wp2_with fail
      go_ret
      exact ⟨rfl, hb⟩
theorem szVisitS_any (n c : Nat) (hn : n ≤ 9223372036854775807) (p : Option Addr) (left : Int) (h1 : -9223372036854775808 ≤ left - n) (h0 : -9223372036854775808 ≤ left) (h2 : left ≤ 9223372036854775807) (w : World) :
    Calls Tryd.prog 32 #[.slice p n c, .int .i64 left] w fun e w' => e = .returned (.int .i64 (if left - n < 0 then -1 else left - n)) ∧ w = w' := by
  by_cases h : left - n < 0
  · rw [if_pos h]
    go_enter Tryd.func32, Tryd.ntmps32
    go_wp2_with fail
    go_ret
    exact ⟨rfl, rfl⟩
  · rw [if_neg h]
    have h' : 0 ≤ left - n := by omega
    clear h
    go_enter Tryd.func32, Tryd.ntmps32
    go_wp2_with fail
    go_ret
    exact ⟨rfl, rfl⟩
theorem toVisitS_nilA (F : Nat → Nat → Int) (p : Option Addr) (c : Nat) (w : World) : Calls Tryd.prog 34 #[.slice p 0 c] w fun e w' => ∃ b', e = .returned (.slice (some ⟨b', 0, none⟩) 0 0) ∧ w.heap.size ≤ b' ∧ Blk w' b' (scells ksVisit 0 F) 32 ∧ Below w.heap.size w w' := by
  go_enter Tryd.func34, Tryd.ntmps34
  go_wp2_with (refine wpList_make (BY := 6) rfl 43 32 _ rfl 0 rfl ksVisit Tryd.underlying43 (by kernel_rfl) (by kernel_rfl) (by omega) (by omega) ?_)
  obtain ⟨W, hW, M⟩ := open1 w (scells ksVisit 0 (fun _ _ => 0)) 32
  rw [hW]; clear hW
  refine wp_loop_rounds 1 ?_
  rw [rounds_succ]
  go_wp2_with fail
  go_ret
  exact ⟨_, rfl, Nat.le_refl _, M.at 0 rfl, M.below⟩
end Go.Proofs.YtaioflkonpommaaDoor
