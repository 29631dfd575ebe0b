/-
  Lists of flocks compared: the model's way, the program's.
-/
import Derived.Test.YtoefadigendkaaaFlk
import Derived.Test.YtoefadigendkaaaStrEq
namespace Go.Proofs.Ytoefadigendkaaa
open Go Go.RowKit

def lseq (ks : List IntKind) (n : Nat) (F : Nat → Nat → Int) (m : Nat) (G : Nat → Nat → Int) : Bool := n == m && allTo n (fun i => seq ks.length (F i) (G i))
/-- Each number fits its kind. -/
def WfS (ks : List IntKind) (n : Nat) (F : Nat → Nat → Int) : Prop := ∀ i, i < n → ∀ j, j < ks.length → (Lit.int (ks.getD j .i64) (F i j)).wf = true

set_option maxRecDepth 100000 in
set_option maxHeartbeats 800000 in
theorem specSameFlocks (n m : Nat) (hn : n ≤ 2 ^ 40) (hm : m ≤ 2 ^ 40) (F G : Nat → Nat → Int) (hF : WfS ksFlock n F) (hG : WfS ksFlock m G) (b d c e : Nat) (w : World) (I1 : InS w b 0 n ksFlock F) (I2 : InS w d 0 m ksFlock G) :
    Calls Try.prog 17 #[.slice (some ⟨b, 0, none⟩) n c, .slice (some ⟨d, 0, none⟩) m e] w fun e w' => e = .returned (.bool (lseq ksFlock n F m G)) ∧ Below w.heap.size w w' := by
  have H1 := Lib.hid I1
  have H2 := Lib.hid I2
  clear I1 I2
  cases hnm : (n == m) with
  | false =>
    have hne : ¬ n = m := by simpa using hnm
    have hne1 : ((n : Int) != (m : Int)) = true := by simp; omega
    have hr : lseq ksFlock n F m G = false := by simp [lseq, hnm]
    rw [hr]; clear hr
    go_enter Try.func17, Try.ntmps17
    go_wp2_with fail
    go_ret
    exact ⟨rfl, Below.refl _ _⟩
  | true =>
    obtain rfl : n = m := by simpa using hnm
    have hr : lseq ksFlock n F n G = allTo n (fun i => seq 6 (F i) (G i)) := by simp [lseq]
    rw [hr]; clear hr hnm
    go_enter Try.func17, Try.ntmps17
    go_wp2_with fail
    go_loopw [5] (fun i wr => ∃ k : Nat, k ≤ n ∧ i = .int .i64 k ∧ Below w.heap.size w wr ∧ Hid (∀ i, i < k → seq 6 (F i) (G i) = true)) (fun i _ => n - (intOf i).toNat)
    case atStart => exact ⟨0, by omega, rfl, Below.refl _ _, Lib.hid (fun i hi => by omega)⟩
    case round =>
      obtain ⟨k, hk, rfl, hb, hall⟩ := hrel
      by_cases hlt : k < n
      · have g1 : Hid (∀ w', Below w.heap.size w w' → w'.rangeAt b (0 + k * 6) (srow ksFlock F k).toList) := Lib.hid (fun w' hw' => InS.elem (ks := ksFlock) H1.out (by decide) hw' hlt)
        have g2 : Hid (∀ w', Below w.heap.size w w' → w'.rangeAt d (0 + k * 6) (srow ksFlock G k).toList) := Lib.hid (fun w' hw' => InS.elem (ks := ksFlock) H2.out (by decide) hw' hlt)
        go_upto_region 6 with (fail)
        refine wp_region_rel (DL [dV (.slice (some ⟨b, 0, none⟩) n c), dV (.int .i64 k), dV (.pointer (some ⟨b, 0 + k * 6, none⟩)), dV (.agg (srow ksFlock F k)), dV (.slice (some ⟨d, 0, none⟩) n e), dV (.int .i64 k), dV (.pointer (some ⟨d, 0 + k * 6, none⟩)), dV (.agg (srow ksFlock G k)), dV (.bool (!(seq 6 (F k) (G k))))]) (fun w' => Below w.heap.size w w') (by kernel_rfl) (by kernel_rfl) (fun _ _ h h' => h.trans (h'.mono h.size))
          (stays_DL (fun d hd => by
            simp only [List.mem_cons, List.mem_nil_iff, or_false] at hd
            rcases hd with rfl | rfl | rfl | rfl | rfl | rfl | rfl | rfl | rfl <;> exact stay_V)) hb.drew ?_
        refine rel_val _ rfl rfl (fun _ _ => rfl) (fun x0 => ?_)
        simp only [Act.put, List.setIfInBounds_toArray, List.set_cons_zero, List.set_cons_succ]
        refine rel_val _ rfl rfl (fun _ _ => rfl) (fun x1 => ?_)
        simp only [Act.put, List.setIfInBounds_toArray, List.set_cons_zero, List.set_cons_succ]
        refine rel_index 46 62 _ _ rfl b 0 n c 6 k rfl rfl hlt Try.underlying46 (by kernel_rfl) rfl rfl (fun x2 => ?_)
        simp only [Act.put, List.setIfInBounds_toArray, List.set_cons_zero, List.set_cons_succ]
        refine rel_load 62 _ rfl b (0 + k * 6) rfl (srow ksFlock F k) _ rfl rfl g1.out Try.underlying62 rfl (by rw [srow_size]; kernel_rfl) (fun x3 => ?_)
        simp only [Act.put, List.setIfInBounds_toArray, List.set_cons_zero, List.set_cons_succ]
        refine rel_val _ rfl rfl (fun _ _ => rfl) (fun x4 => ?_)
        simp only [Act.put, List.setIfInBounds_toArray, List.set_cons_zero, List.set_cons_succ]
        refine rel_val _ rfl rfl (fun _ _ => rfl) (fun x5 => ?_)
        simp only [Act.put, List.setIfInBounds_toArray, List.set_cons_zero, List.set_cons_succ]
        refine rel_index 46 62 _ _ rfl d 0 n e 6 k rfl rfl hlt Try.underlying46 (by kernel_rfl) rfl rfl (fun x6 => ?_)
        simp only [Act.put, List.setIfInBounds_toArray, List.set_cons_zero, List.set_cons_succ]
        refine rel_load 62 _ rfl d (0 + k * 6) rfl (srow ksFlock G k) _ rfl rfl g2.out Try.underlying62 rfl (by rw [srow_size]; kernel_rfl) (fun x7 => ?_)
        simp only [Act.put, List.setIfInBounds_toArray, List.set_cons_zero, List.set_cons_succ]
        refine rel_neq 62 _ _ _ rfl (srow ksFlock F k) (srow ksFlock G k) rfl rfl (seq 6 (F k) (G k)) rfl rfl (by kernel_rfl) (fun w' => run_equalIn_str (m := 3) F G k k Try.underlying62 (by kernel_rfl) (by kernel_rfl) (by kernel_rfl) (by omega) (hF k hlt) (hG k hlt) w') (fun x8 => ?_)
        simp only [Act.put, List.setIfInBounds_toArray, List.set_cons_zero, List.set_cons_succ]
        refine rel_nil (fun w' inv => ?_)
        have hb' := inv.cls
        clear inv
        cases hs : seq 6 (F k) (G k) with
        | true =>
          go_wp2_with fail
          go_roundw
          case rel => exact ⟨k + 1, by omega, by go_num, hb', Lib.hid (upto_succ hall.out hs)⟩
          case measure => simp [intOf]; omega
        | false =>
          have hc : Hid (allTo n (fun i => seq 6 (F i) (G i)) = false) := Lib.hid (allTo_false hlt hs)
          go_wp2_with fail
          go_ret
          exact ⟨by rw [hc.out]; rfl, hb'⟩
      · obtain rfl : k = n := by omega
        go_wp2_with fail
        go_ret
        exact ⟨by rw [allTo_iff.2 hall.out]; rfl, hb⟩

set_option maxRecDepth 100000 in
set_option maxHeartbeats 800000 in
theorem equalFlocks (n m : Nat) (hn : n ≤ 2 ^ 40) (hm : m ≤ 2 ^ 40) (F G : Nat → Nat → Int) (hF : WfS ksFlock n F) (hG : WfS ksFlock m G) (b d c e : Nat) (w : World) (I1 : InS w b 0 n ksFlock F) (I2 : InS w d 0 m ksFlock G) :
    Calls Try.prog 30 #[.slice (some ⟨b, 0, none⟩) n c, .slice (some ⟨d, 0, none⟩) m e] w fun e w' => e = .returned (.bool (lseq ksFlock n F m G)) ∧ Below w.heap.size w w' := by
  have H1 := Lib.hid I1
  have H2 := Lib.hid I2
  clear I1 I2
  cases hnm : (n == m) with
  | false =>
    have hne : ¬ n = m := by simpa using hnm
    have hne1 : ((n : Int) != (m : Int)) = true := by simp; omega
    have hr : lseq ksFlock n F m G = false := by simp [lseq, hnm]
    rw [hr]; clear hr
    go_enter Try.func30, Try.ntmps30
    go_wp2_with fail
    go_ret
    exact ⟨rfl, Below.refl _ _⟩
  | true =>
    obtain rfl : n = m := by simpa using hnm
    have hr : lseq ksFlock n F n G = allTo n (fun i => seq 6 (F i) (G i)) := by simp [lseq]
    rw [hr]; clear hr hnm
    go_enter Try.func30, Try.ntmps30
    go_wp2_with fail
    go_loopw [13] (fun i wr => ∃ k : Nat, k ≤ n ∧ i = .int .i64 k ∧ Below w.heap.size w wr ∧ Hid (∀ i, i < k → seq 6 (F i) (G i) = true)) (fun i _ => n - (intOf i).toNat)
    case atStart => exact ⟨0, by omega, rfl, Below.refl _ _, Lib.hid (fun i hi => by omega)⟩
    case round =>
      obtain ⟨k, hk, rfl, hb, hall⟩ := hrel
      by_cases hlt : k < n
      · have g1 : Hid (∀ w', Below w.heap.size w w' → w'.rangeAt b (0 + k * 6) (srow ksFlock F k).toList) := Lib.hid (fun w' hw' => InS.elem (ks := ksFlock) H1.out (by decide) hw' hlt)
        have g2 : Hid (∀ w', Below w.heap.size w w' → w'.rangeAt d (0 + k * 6) (srow ksFlock G k).toList) := Lib.hid (fun w' hw' => InS.elem (ks := ksFlock) H2.out (by decide) hw' hlt)
        go_upto_region 6 with (fail)
        refine wp_region_rel (DL [dV (.slice (some ⟨b, 0, none⟩) n c), dV (.int .i64 k), dV (.pointer (some ⟨b, 0 + k * 6, none⟩)), dV (.agg (srow ksFlock F k)), dV (.slice (some ⟨d, 0, none⟩) n e), dV (.int .i64 k), dV (.pointer (some ⟨d, 0 + k * 6, none⟩)), dV (.agg (srow ksFlock G k)), dV (.bool (!(seq 6 (F k) (G k))))]) (fun w' => Below w.heap.size w w') (by kernel_rfl) (by kernel_rfl) (fun _ _ h h' => h.trans (h'.mono h.size))
          (stays_DL (fun d hd => by
            simp only [List.mem_cons, List.mem_nil_iff, or_false] at hd
            rcases hd with rfl | rfl | rfl | rfl | rfl | rfl | rfl | rfl | rfl <;> exact stay_V)) hb.drew ?_
        refine rel_val _ rfl rfl (fun _ _ => rfl) (fun x0 => ?_)
        simp only [Act.put, List.setIfInBounds_toArray, List.set_cons_zero, List.set_cons_succ]
        refine rel_val _ rfl rfl (fun _ _ => rfl) (fun x1 => ?_)
        simp only [Act.put, List.setIfInBounds_toArray, List.set_cons_zero, List.set_cons_succ]
        refine rel_index 46 62 _ _ rfl b 0 n c 6 k rfl rfl hlt Try.underlying46 (by kernel_rfl) rfl rfl (fun x2 => ?_)
        simp only [Act.put, List.setIfInBounds_toArray, List.set_cons_zero, List.set_cons_succ]
        refine rel_load 62 _ rfl b (0 + k * 6) rfl (srow ksFlock F k) _ rfl rfl g1.out Try.underlying62 rfl (by rw [srow_size]; kernel_rfl) (fun x3 => ?_)
        simp only [Act.put, List.setIfInBounds_toArray, List.set_cons_zero, List.set_cons_succ]
        refine rel_val _ rfl rfl (fun _ _ => rfl) (fun x4 => ?_)
        simp only [Act.put, List.setIfInBounds_toArray, List.set_cons_zero, List.set_cons_succ]
        refine rel_val _ rfl rfl (fun _ _ => rfl) (fun x5 => ?_)
        simp only [Act.put, List.setIfInBounds_toArray, List.set_cons_zero, List.set_cons_succ]
        refine rel_index 46 62 _ _ rfl d 0 n e 6 k rfl rfl hlt Try.underlying46 (by kernel_rfl) rfl rfl (fun x6 => ?_)
        simp only [Act.put, List.setIfInBounds_toArray, List.set_cons_zero, List.set_cons_succ]
        refine rel_load 62 _ rfl d (0 + k * 6) rfl (srow ksFlock G k) _ rfl rfl g2.out Try.underlying62 rfl (by rw [srow_size]; kernel_rfl) (fun x7 => ?_)
        simp only [Act.put, List.setIfInBounds_toArray, List.set_cons_zero, List.set_cons_succ]
        refine rel_neq 62 _ _ _ rfl (srow ksFlock F k) (srow ksFlock G k) rfl rfl (seq 6 (F k) (G k)) rfl rfl (by kernel_rfl) (fun w' => run_equalIn_str (m := 3) F G k k Try.underlying62 (by kernel_rfl) (by kernel_rfl) (by kernel_rfl) (by omega) (hF k hlt) (hG k hlt) w') (fun x8 => ?_)
        simp only [Act.put, List.setIfInBounds_toArray, List.set_cons_zero, List.set_cons_succ]
        refine rel_nil (fun w' inv => ?_)
        have hb' := inv.cls
        clear inv
        cases hs : seq 6 (F k) (G k) with
        | true =>
          go_wp2_with fail
          go_roundw
          case rel => exact ⟨k + 1, by omega, by go_num, hb', Lib.hid (upto_succ hall.out hs)⟩
          case measure => simp [intOf]; omega
        | false =>
          have hc : Hid (allTo n (fun i => seq 6 (F i) (G i)) = false) := Lib.hid (allTo_false hlt hs)
          go_wp2_with fail
          go_ret
          exact ⟨by rw [hc.out]; rfl, hb'⟩
      · obtain rfl : k = n := by omega
        go_wp2_with fail
        go_ret
        exact ⟨by rw [allTo_iff.2 hall.out]; rfl, hb⟩

theorem implSameFlocks (n m : Nat) (hn : n ≤ 2 ^ 40) (hm : m ≤ 2 ^ 40) (F G : Nat → Nat → Int) (hF : WfS ksFlock n F) (hG : WfS ksFlock m G) (b d c e : Nat) (w : World) (I1 : InS w b 0 n ksFlock F) (I2 : InS w d 0 m ksFlock G) :
    Calls Try.prog 19 #[.slice (some ⟨b, 0, none⟩) n c, .slice (some ⟨d, 0, none⟩) m e] w fun e w' => e = .returned (.bool (lseq ksFlock n F m G)) ∧ Below w.heap.size w w' := by
  go_enter Try.func19, Try.ntmps19
  go_wp2_with (go_at_call 30; refine (equalFlocks n m hn hm F G hF hG b d c e _ I1 I2).mono ?_; rintro e w' ⟨rfl, hb⟩)
  go_ret
  exact ⟨rfl, hb⟩
end Go.Proofs.Ytoefadigendkaaa
