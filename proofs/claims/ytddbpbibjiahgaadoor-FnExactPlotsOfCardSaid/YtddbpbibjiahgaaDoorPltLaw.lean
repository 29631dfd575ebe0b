/-
  The laws' comparisons and marks on plots.
-/
import Derived.Test.YtddbpbibjiahgaaDoorPlt
import Derived.Test.YtddbpbibjiahgaaDoorFlkEq
import Derived.RangeFuncNested
import Derived.Shelf.Abstract
namespace Go.Proofs.YtddbpbibjiahgaaDoor
open Go Go.RowKit

theorem eqPlot_same (F : Nat → Nat → Int) (i : Nat) (w : World) : Calls Tryd.prog 35 #[.agg (srow ksPlot F i), .agg (srow ksPlot F i)] w fun e w' => e = .returned (.bool true) ∧ Below w.heap.size w w' := by
  suffices ∀ a : Nat → Int, Calls Tryd.prog 35 #[vPlot a, vPlot a] w fun e w' => e = .returned (.bool true) ∧ Below w.heap.size w w' from this (F i)
  intro a
  go_enter Tryd.func35, Tryd.ntmps35
  go_wp2_with fail
  go_ret
  exact ⟨rfl, ((Below.refl _ _).alloc (Nat.le_refl _) _).alloc (by simp) _⟩
set_option maxRecDepth 100000 in
set_option maxHeartbeats 800000 in
theorem eqPlotS_same (n : Nat) (hn : n ≤ 2 ^ 40) (F : Nat → Nat → Int) (b d c e : Nat) (w : World) (I1 : InS w b 0 n ksPlot F) (I2 : InS w d 0 n ksPlot F) :
    Calls Tryd.prog 10 #[.slice (some ⟨b, 0, none⟩) n c, .slice (some ⟨d, 0, none⟩) n e] w fun e w' => e = .returned (.bool true) ∧ Below w.heap.size w w' := by
  have H1 := Lib.hid I1
  have H2 := Lib.hid I2
  clear I1 I2
  go_enter Tryd.func10, Tryd.ntmps10
  go_wp2_with fail
  go_loopw [5] (fun i wr => ∃ k : Nat, k ≤ n ∧ i = .int .i64 k ∧ Below w.heap.size w wr) (fun i _ => n - (intOf i).toNat)
  case atStart => exact ⟨0, by omega, rfl, Below.refl _ _⟩
  case round =>
    obtain ⟨k, hk, rfl, hb⟩ := hrel
    by_cases hlt : k < n
    · have g1 : Hid (∀ w', Below w.heap.size w w' → w'.rangeAt b (0 + k * 4) (srow ksPlot F k).toList) := Lib.hid (fun w' hw' => InS.elem (ks := ksPlot) H1.out (by decide) hw' hlt)
      have g2 : Hid (∀ w', Below w.heap.size w w' → w'.rangeAt d (0 + k * 4) (srow ksPlot F k).toList) := Lib.hid (fun w' hw' => InS.elem (ks := ksPlot) H2.out (by decide) hw' hlt)
      go_upto_region 6 with (fail)
      refine wp_region_rel (DL [dV (.slice (some ⟨b, 0, none⟩) n c), dV (.int .i64 k), dV (.pointer (some ⟨b, 0 + k * 4, none⟩)), dV (.agg (srow ksPlot F k)), dV (.slice (some ⟨d, 0, none⟩) n e), dV (.int .i64 k), dV (.pointer (some ⟨d, 0 + k * 4, none⟩)), dV (.agg (srow ksPlot F k)), dV (.bool true), dV (.bool false)]) (fun w' => Below w.heap.size w w') (by kernel_rfl) (by kernel_rfl) (fun _ _ h h' => h.trans (h'.mono h.size))
        (stays_DL (fun d hd => by
          simp only [List.mem_cons, List.mem_nil_iff, or_false] at hd
          rcases hd with rfl | rfl | rfl | rfl | rfl | rfl | rfl | rfl | rfl | rfl <;> exact stay_V)) hb.drew ?_
      refine rel_val _ rfl rfl (fun _ _ => rfl) (fun x0 => ?_)
      simp only [Act.put, List.setIfInBounds_toArray, List.set_cons_zero, List.set_cons_succ]
      refine rel_val _ rfl rfl (fun _ _ => rfl) (fun x1 => ?_)
      simp only [Act.put, List.setIfInBounds_toArray, List.set_cons_zero, List.set_cons_succ]
      refine rel_index 28 58 _ _ rfl b 0 n c 4 k rfl rfl hlt Tryd.underlying28 (by kernel_rfl) rfl rfl (fun x2 => ?_)
      simp only [Act.put, List.setIfInBounds_toArray, List.set_cons_zero, List.set_cons_succ]
      refine rel_load 58 _ rfl b (0 + k * 4) rfl (srow ksPlot F k) _ rfl rfl g1.out Tryd.underlying58 rfl (by rw [srow_size]; kernel_rfl) (fun x3 => ?_)
      simp only [Act.put, List.setIfInBounds_toArray, List.set_cons_zero, List.set_cons_succ]
      refine rel_val _ rfl rfl (fun _ _ => rfl) (fun x4 => ?_)
      simp only [Act.put, List.setIfInBounds_toArray, List.set_cons_zero, List.set_cons_succ]
      refine rel_val _ rfl rfl (fun _ _ => rfl) (fun x5 => ?_)
      simp only [Act.put, List.setIfInBounds_toArray, List.set_cons_zero, List.set_cons_succ]
      refine rel_index 28 58 _ _ rfl d 0 n e 4 k rfl rfl hlt Tryd.underlying28 (by kernel_rfl) rfl rfl (fun x6 => ?_)
      simp only [Act.put, List.setIfInBounds_toArray, List.set_cons_zero, List.set_cons_succ]
      refine rel_load 58 _ rfl d (0 + k * 4) rfl (srow ksPlot F k) _ rfl rfl g2.out Tryd.underlying58 rfl (by rw [srow_size]; kernel_rfl) (fun x7 => ?_)
      simp only [Act.put, List.setIfInBounds_toArray, List.set_cons_zero, List.set_cons_succ]
      refine rel_call _ 35 #[.agg (srow ksPlot F k), .agg (srow ksPlot F k)] rfl rfl rfl rfl (enters_of Tryd.func35 (by kernel_rfl) rfl) (fun w' _ => eqPlot_same F k w') (fun x8 => ?_)
      simp only [Act.put, List.setIfInBounds_toArray, List.set_cons_zero, List.set_cons_succ]
      refine rel_val _ rfl rfl (fun _ _ => rfl) (fun x9 => ?_)
      simp only [Act.put, List.setIfInBounds_toArray, List.set_cons_zero, List.set_cons_succ]
      refine rel_nil (fun w' inv => ?_)
      have hb' := inv.cls
      clear inv
      go_wp2_with fail
      go_roundw
      case rel => exact ⟨k + 1, by omega, by go_num, hb'⟩
      case measure => simp [intOf]; omega
    · obtain rfl : k = n := by omega
      go_wp2_with fail
      go_ret
      exact ⟨rfl, hb⟩
end Go.Proofs.YtddbpbibjiahgaaDoor
