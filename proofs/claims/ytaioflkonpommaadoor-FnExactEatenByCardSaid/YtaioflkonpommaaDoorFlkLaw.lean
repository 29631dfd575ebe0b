/-
  The laws' comparisons and marks on flocks.
-/
import Derived.Test.YtaioflkonpommaaDoorFlkEq
import Derived.RangeFuncNested
import Derived.Shelf.Abstract
namespace Go.Proofs.YtaioflkonpommaaDoor
open Go Go.RowKit

theorem eqFlock_same (F : Nat → Nat → Int) (i : Nat) (w : World) : Calls Tryd.prog 56 #[.agg (srow ksFlock F i), .agg (srow ksFlock F i)] w fun e w' => e = .returned (.bool true) ∧ Below w.heap.size w w' := by
  suffices ∀ a : Nat → Int, Calls Tryd.prog 56 #[vFlock a, vFlock a] w fun e w' => e = .returned (.bool true) ∧ Below w.heap.size w w' from this (F i)
  intro a
  go_enter Tryd.func56, Tryd.ntmps56
  go_wp2_with fail
  go_ret
  exact ⟨rfl, ((Below.refl _ _).alloc (Nat.le_refl _) _).alloc (by simp) _⟩
set_option maxRecDepth 100000 in
set_option maxHeartbeats 800000 in
theorem eqFlockS_same (n : Nat) (hn : n ≤ 2 ^ 40) (F : Nat → Nat → Int) (b d c e : Nat) (w : World) (I1 : InS w b 0 n ksFlock F) (I2 : InS w d 0 n ksFlock F) :
    Calls Tryd.prog 25 #[.slice (some ⟨b, 0, none⟩) n c, .slice (some ⟨d, 0, none⟩) n e] w fun e w' => e = .returned (.bool true) ∧ Below w.heap.size w w' := by
  have H1 := Lib.hid I1
  have H2 := Lib.hid I2
  clear I1 I2
  go_enter Tryd.func25, Tryd.ntmps25
  go_wp2_with fail
  go_loopw [5] (fun i wr => ∃ k : Nat, k ≤ n ∧ i = .int .i64 k ∧ Below w.heap.size w wr) (fun i _ => n - (intOf i).toNat)
  case atStart => exact ⟨0, by omega, rfl, Below.refl _ _⟩
  case round =>
    obtain ⟨k, hk, rfl, hb⟩ := hrel
    by_cases hlt : k < n
    · have g1 : Hid (∀ w', Below w.heap.size w w' → w'.rangeAt b (0 + k * 6) (srow ksFlock F k).toList) := Lib.hid (fun w' hw' => InS.elem (ks := ksFlock) H1.out (by decide) hw' hlt)
      have g2 : Hid (∀ w', Below w.heap.size w w' → w'.rangeAt d (0 + k * 6) (srow ksFlock F k).toList) := Lib.hid (fun w' hw' => InS.elem (ks := ksFlock) H2.out (by decide) hw' hlt)
      go_upto_region 6 with (fail)
      refine wp_region_rel (DL [dV (.slice (some ⟨b, 0, none⟩) n c), dV (.int .i64 k), dV (.pointer (some ⟨b, 0 + k * 6, none⟩)), dV (.agg (srow ksFlock F k)), dV (.slice (some ⟨d, 0, none⟩) n e), dV (.int .i64 k), dV (.pointer (some ⟨d, 0 + k * 6, none⟩)), dV (.agg (srow ksFlock F k)), dV (.bool true), dV (.bool false)]) (fun w' => Below w.heap.size w w') (by kernel_rfl) (by kernel_rfl) (fun _ _ h h' => h.trans (h'.mono h.size))
        (stays_DL (fun d hd => by
          simp only [List.mem_cons, List.mem_nil_iff, or_false] at hd
          rcases hd with rfl | rfl | rfl | rfl | rfl | rfl | rfl | rfl | rfl | rfl <;> exact stay_V)) hb.drew ?_
      refine rel_val _ rfl rfl (fun _ _ => rfl) (fun x0 => ?_)
      simp only [Act.put, List.setIfInBounds_toArray, List.set_cons_zero, List.set_cons_succ]
      refine rel_val _ rfl rfl (fun _ _ => rfl) (fun x1 => ?_)
      simp only [Act.put, List.setIfInBounds_toArray, List.set_cons_zero, List.set_cons_succ]
      refine rel_index 51 38 _ _ rfl b 0 n c 6 k rfl rfl hlt Tryd.underlying51 (by kernel_rfl) rfl rfl (fun x2 => ?_)
      simp only [Act.put, List.setIfInBounds_toArray, List.set_cons_zero, List.set_cons_succ]
      refine rel_load 38 _ rfl b (0 + k * 6) rfl (srow ksFlock F k) _ rfl rfl g1.out Tryd.underlying38 rfl (by rw [srow_size]; kernel_rfl) (fun x3 => ?_)
      simp only [Act.put, List.setIfInBounds_toArray, List.set_cons_zero, List.set_cons_succ]
      refine rel_val _ rfl rfl (fun _ _ => rfl) (fun x4 => ?_)
      simp only [Act.put, List.setIfInBounds_toArray, List.set_cons_zero, List.set_cons_succ]
      refine rel_val _ rfl rfl (fun _ _ => rfl) (fun x5 => ?_)
      simp only [Act.put, List.setIfInBounds_toArray, List.set_cons_zero, List.set_cons_succ]
      refine rel_index 51 38 _ _ rfl d 0 n e 6 k rfl rfl hlt Tryd.underlying51 (by kernel_rfl) rfl rfl (fun x6 => ?_)
      simp only [Act.put, List.setIfInBounds_toArray, List.set_cons_zero, List.set_cons_succ]
      refine rel_load 38 _ rfl d (0 + k * 6) rfl (srow ksFlock F k) _ rfl rfl g2.out Tryd.underlying38 rfl (by rw [srow_size]; kernel_rfl) (fun x7 => ?_)
      simp only [Act.put, List.setIfInBounds_toArray, List.set_cons_zero, List.set_cons_succ]
      refine rel_call _ 56 #[.agg (srow ksFlock F k), .agg (srow ksFlock F k)] rfl rfl rfl rfl (enters_of Tryd.func56 (by kernel_rfl) rfl) (fun w' _ => eqFlock_same F k w') (fun x8 => ?_)
      simp only [Act.put, List.setIfInBounds_toArray, List.set_cons_zero, List.set_cons_succ]
      refine rel_val _ rfl rfl (fun _ _ => rfl) (fun x9 => ?_)
      simp only [Act.put, List.setIfInBounds_toArray, List.set_cons_zero, List.set_cons_succ]
      refine rel_nil (fun w' inv => ?_)
      have hb' := inv.cls
      clear inv
      go_wp2_with fail
      go_roundw
      case rel => exact ⟨k + 1, by omega, by go_num, hb'⟩
      case measure => simp [intOf]; omega
    · obtain rfl : k = n := by omega
      go_wp2_with fail
      go_ret
      exact ⟨rfl, hb⟩
theorem szFlockS_any (n c : Nat) (hn : n ≤ 9223372036854775807) (p : Option Addr) (left : Int) (h1 : -9223372036854775808 ≤ left - n) (h0 : -9223372036854775808 ≤ left) (h2 : left ≤ 9223372036854775807) (w : World) :
    Calls Tryd.prog 21 #[.slice p n c, .int .i64 left] w fun e w' => e = .returned (.int .i64 (if left - n < 0 then -1 else left - n)) ∧ w = w' := by
  by_cases h : left - n < 0
  · rw [if_pos h]
    go_enter Tryd.func21, Tryd.ntmps21
    go_wp2_with fail
    go_ret
    exact ⟨rfl, rfl⟩
  · rw [if_neg h]
    have h' : 0 ≤ left - n := by omega
    clear h
    go_enter Tryd.func21, Tryd.ntmps21
    go_wp2_with fail
    go_ret
    exact ⟨rfl, rfl⟩
theorem toFlockS_nilA (F : Nat → Nat → Int) (p : Option Addr) (c : Nat) (w : World) : Calls Tryd.prog 23 #[.slice p 0 c] w fun e w' => ∃ b', e = .returned (.slice (some ⟨b', 0, none⟩) 0 0) ∧ w.heap.size ≤ b' ∧ Blk w' b' (scells ksFlock 0 F) 38 ∧ Below w.heap.size w w' := by
  go_enter Tryd.func23, Tryd.ntmps23
  go_wp2_with (refine wpList_make (BY := 12) rfl 51 38 _ rfl 0 rfl ksFlock Tryd.underlying51 (by kernel_rfl) (by kernel_rfl) (by omega) (by omega) ?_)
  obtain ⟨W, hW, M⟩ := open1 w (scells ksFlock 0 (fun _ _ => 0)) 38
  rw [hW]; clear hW
  refine wp_loop_rounds 1 ?_
  rw [rounds_succ]
  go_wp2_with fail
  go_ret
  exact ⟨_, rfl, Nat.le_refl _, M.at 0 rfl, M.below⟩
end Go.Proofs.YtaioflkonpommaaDoor
