/-
  Lists of scarecrows compared: the model's way, the program's.
-/
import Derived.Test.YtfnpbpokieckcaaScr
import Derived.Test.YtfnpbpokieckcaaStrEq
import Derived.Test.YtfnpbpokieckcaaFlkEq
namespace Go.Proofs.Ytfnpbpokieckcaa
open Go Go.RowKit

set_option maxRecDepth 100000 in
set_option maxHeartbeats 800000 in
theorem specSameScares (n m : Nat) (hn : n ≤ 2 ^ 40) (hm : m ≤ 2 ^ 40) (F G : Nat → Nat → Int) (hF : WfS ksScarecrow n F) (hG : WfS ksScarecrow m G) (b d c e : Nat) (w : World) (I1 : InS w b 0 n ksScarecrow F) (I2 : InS w d 0 m ksScarecrow G) :
    Calls Try.prog 9 #[.slice (some ⟨b, 0, none⟩) n c, .slice (some ⟨d, 0, none⟩) m e] w fun e w' => e = .returned (.bool (lseq ksScarecrow n F m G)) ∧ Below w.heap.size w w' := by
  have H1 := Lib.hid I1
  have H2 := Lib.hid I2
  clear I1 I2
  cases hnm : (n == m) with
  | false =>
    have hne : ¬ n = m := by simpa using hnm
    have hne1 : ((n : Int) != (m : Int)) = true := by simp; omega
    have hr : lseq ksScarecrow n F m G = false := by simp [lseq, hnm]
    rw [hr]; clear hr
    go_enter Try.func9, Try.ntmps9
    go_wp2_with fail
    go_ret
    exact ⟨rfl, Below.refl _ _⟩
  | true =>
    obtain rfl : n = m := by simpa using hnm
    have hr : lseq ksScarecrow n F n G = allTo n (fun i => seq 3 (F i) (G i)) := by simp [lseq]
    rw [hr]; clear hr hnm
    go_enter Try.func9, Try.ntmps9
    go_wp2_with fail
    go_loopw [5] (fun i wr => ∃ k : Nat, k ≤ n ∧ i = .int .i64 k ∧ Below w.heap.size w wr ∧ Hid (∀ i, i < k → seq 3 (F i) (G i) = true)) (fun i _ => n - (intOf i).toNat)
    case atStart => exact ⟨0, by omega, rfl, Below.refl _ _, Lib.hid (fun i hi => by omega)⟩
    case round =>
      obtain ⟨k, hk, rfl, hb, hall⟩ := hrel
      by_cases hlt : k < n
      · have g1 : Hid (∀ w', Below w.heap.size w w' → w'.rangeAt b (0 + k * 3) (srow ksScarecrow F k).toList) := Lib.hid (fun w' hw' => InS.elem (ks := ksScarecrow) H1.out (by decide) hw' hlt)
        have g2 : Hid (∀ w', Below w.heap.size w w' → w'.rangeAt d (0 + k * 3) (srow ksScarecrow G k).toList) := Lib.hid (fun w' hw' => InS.elem (ks := ksScarecrow) H2.out (by decide) hw' hlt)
        go_upto_region 6 with (fail)
        refine wp_region_rel (DL [dV (.slice (some ⟨b, 0, none⟩) n c), dV (.int .i64 k), dV (.pointer (some ⟨b, 0 + k * 3, none⟩)), dV (.agg (srow ksScarecrow F k)), dV (.slice (some ⟨d, 0, none⟩) n e), dV (.int .i64 k), dV (.pointer (some ⟨d, 0 + k * 3, none⟩)), dV (.agg (srow ksScarecrow G k)), dV (.bool (!(seq 3 (F k) (G k))))]) (fun w' => Below w.heap.size w w') (by kernel_rfl) (by kernel_rfl) (fun _ _ h h' => h.trans (h'.mono h.size))
          (stays_DL (fun d hd => by
            simp only [List.mem_cons, List.mem_nil_iff, or_false] at hd
            rcases hd with rfl | rfl | rfl | rfl | rfl | rfl | rfl | rfl | rfl <;> exact stay_V)) hb.drew ?_
        refine rel_val _ rfl rfl (fun _ _ => rfl) (fun x0 => ?_)
        simp only [Act.put, List.setIfInBounds_toArray, List.set_cons_zero, List.set_cons_succ]
        refine rel_val _ rfl rfl (fun _ _ => rfl) (fun x1 => ?_)
        simp only [Act.put, List.setIfInBounds_toArray, List.set_cons_zero, List.set_cons_succ]
        refine rel_index 35 41 _ _ rfl b 0 n c 3 k rfl rfl hlt Try.underlying35 (by kernel_rfl) rfl rfl (fun x2 => ?_)
        simp only [Act.put, List.setIfInBounds_toArray, List.set_cons_zero, List.set_cons_succ]
        refine rel_load 41 _ rfl b (0 + k * 3) rfl (srow ksScarecrow F k) _ rfl rfl g1.out Try.underlying41 rfl (by rw [srow_size]; kernel_rfl) (fun x3 => ?_)
        simp only [Act.put, List.setIfInBounds_toArray, List.set_cons_zero, List.set_cons_succ]
        refine rel_val _ rfl rfl (fun _ _ => rfl) (fun x4 => ?_)
        simp only [Act.put, List.setIfInBounds_toArray, List.set_cons_zero, List.set_cons_succ]
        refine rel_val _ rfl rfl (fun _ _ => rfl) (fun x5 => ?_)
        simp only [Act.put, List.setIfInBounds_toArray, List.set_cons_zero, List.set_cons_succ]
        refine rel_index 35 41 _ _ rfl d 0 n e 3 k rfl rfl hlt Try.underlying35 (by kernel_rfl) rfl rfl (fun x6 => ?_)
        simp only [Act.put, List.setIfInBounds_toArray, List.set_cons_zero, List.set_cons_succ]
        refine rel_load 41 _ rfl d (0 + k * 3) rfl (srow ksScarecrow G k) _ rfl rfl g2.out Try.underlying41 rfl (by rw [srow_size]; kernel_rfl) (fun x7 => ?_)
        simp only [Act.put, List.setIfInBounds_toArray, List.set_cons_zero, List.set_cons_succ]
        refine rel_neq 41 _ _ _ rfl (srow ksScarecrow F k) (srow ksScarecrow G k) rfl rfl (seq 3 (F k) (G k)) rfl rfl (by kernel_rfl) (fun w' => run_equalIn_str (m := 3) F G k k Try.underlying41 (by kernel_rfl) (by kernel_rfl) (by kernel_rfl) (by omega) (hF k hlt) (hG k hlt) w') (fun x8 => ?_)
        simp only [Act.put, List.setIfInBounds_toArray, List.set_cons_zero, List.set_cons_succ]
        refine rel_nil (fun w' inv => ?_)
        have hb' := inv.cls
        clear inv
        cases hs : seq 3 (F k) (G k) with
        | true =>
          go_wp2_with fail
          go_roundw
          case rel => exact ⟨k + 1, by omega, by go_num, hb', Lib.hid (upto_succ hall.out hs)⟩
          case measure => simp [intOf]; omega
        | false =>
          have hc : Hid (allTo n (fun i => seq 3 (F i) (G i)) = false) := Lib.hid (allTo_false hlt hs)
          go_wp2_with fail
          go_ret
          exact ⟨by rw [hc.out]; rfl, hb'⟩
      · obtain rfl : k = n := by omega
        go_wp2_with fail
        go_ret
        exact ⟨by rw [allTo_iff.2 hall.out]; rfl, hb⟩

set_option maxRecDepth 100000 in
set_option maxHeartbeats 800000 in
theorem equalScares (n m : Nat) (hn : n ≤ 2 ^ 40) (hm : m ≤ 2 ^ 40) (F G : Nat → Nat → Int) (hF : WfS ksScarecrow n F) (hG : WfS ksScarecrow m G) (b d c e : Nat) (w : World) (I1 : InS w b 0 n ksScarecrow F) (I2 : InS w d 0 m ksScarecrow G) :
    Calls Try.prog 16 #[.slice (some ⟨b, 0, none⟩) n c, .slice (some ⟨d, 0, none⟩) m e] w fun e w' => e = .returned (.bool (lseq ksScarecrow n F m G)) ∧ Below w.heap.size w w' := by
  have H1 := Lib.hid I1
  have H2 := Lib.hid I2
  clear I1 I2
  cases hnm : (n == m) with
  | false =>
    have hne : ¬ n = m := by simpa using hnm
    have hne1 : ((n : Int) != (m : Int)) = true := by simp; omega
    have hr : lseq ksScarecrow n F m G = false := by simp [lseq, hnm]
    rw [hr]; clear hr
    go_enter Try.func16, Try.ntmps16
    go_wp2_with fail
    go_ret
    exact ⟨rfl, Below.refl _ _⟩
  | true =>
    obtain rfl : n = m := by simpa using hnm
    have hr : lseq ksScarecrow n F n G = allTo n (fun i => seq 3 (F i) (G i)) := by simp [lseq]
    rw [hr]; clear hr hnm
    go_enter Try.func16, Try.ntmps16
    go_wp2_with fail
    go_loopw [13] (fun i wr => ∃ k : Nat, k ≤ n ∧ i = .int .i64 k ∧ Below w.heap.size w wr ∧ Hid (∀ i, i < k → seq 3 (F i) (G i) = true)) (fun i _ => n - (intOf i).toNat)
    case atStart => exact ⟨0, by omega, rfl, Below.refl _ _, Lib.hid (fun i hi => by omega)⟩
    case round =>
      obtain ⟨k, hk, rfl, hb, hall⟩ := hrel
      by_cases hlt : k < n
      · have g1 : Hid (∀ w', Below w.heap.size w w' → w'.rangeAt b (0 + k * 3) (srow ksScarecrow F k).toList) := Lib.hid (fun w' hw' => InS.elem (ks := ksScarecrow) H1.out (by decide) hw' hlt)
        have g2 : Hid (∀ w', Below w.heap.size w w' → w'.rangeAt d (0 + k * 3) (srow ksScarecrow G k).toList) := Lib.hid (fun w' hw' => InS.elem (ks := ksScarecrow) H2.out (by decide) hw' hlt)
        go_upto_region 6 with (fail)
        refine wp_region_rel (DL [dV (.slice (some ⟨b, 0, none⟩) n c), dV (.int .i64 k), dV (.pointer (some ⟨b, 0 + k * 3, none⟩)), dV (.agg (srow ksScarecrow F k)), dV (.slice (some ⟨d, 0, none⟩) n e), dV (.int .i64 k), dV (.pointer (some ⟨d, 0 + k * 3, none⟩)), dV (.agg (srow ksScarecrow G k)), dV (.bool (!(seq 3 (F k) (G k))))]) (fun w' => Below w.heap.size w w') (by kernel_rfl) (by kernel_rfl) (fun _ _ h h' => h.trans (h'.mono h.size))
          (stays_DL (fun d hd => by
            simp only [List.mem_cons, List.mem_nil_iff, or_false] at hd
            rcases hd with rfl | rfl | rfl | rfl | rfl | rfl | rfl | rfl | rfl <;> exact stay_V)) hb.drew ?_
        refine rel_val _ rfl rfl (fun _ _ => rfl) (fun x0 => ?_)
        simp only [Act.put, List.setIfInBounds_toArray, List.set_cons_zero, List.set_cons_succ]
        refine rel_val _ rfl rfl (fun _ _ => rfl) (fun x1 => ?_)
        simp only [Act.put, List.setIfInBounds_toArray, List.set_cons_zero, List.set_cons_succ]
        refine rel_index 35 41 _ _ rfl b 0 n c 3 k rfl rfl hlt Try.underlying35 (by kernel_rfl) rfl rfl (fun x2 => ?_)
        simp only [Act.put, List.setIfInBounds_toArray, List.set_cons_zero, List.set_cons_succ]
        refine rel_load 41 _ rfl b (0 + k * 3) rfl (srow ksScarecrow F k) _ rfl rfl g1.out Try.underlying41 rfl (by rw [srow_size]; kernel_rfl) (fun x3 => ?_)
        simp only [Act.put, List.setIfInBounds_toArray, List.set_cons_zero, List.set_cons_succ]
        refine rel_val _ rfl rfl (fun _ _ => rfl) (fun x4 => ?_)
        simp only [Act.put, List.setIfInBounds_toArray, List.set_cons_zero, List.set_cons_succ]
        refine rel_val _ rfl rfl (fun _ _ => rfl) (fun x5 => ?_)
        simp only [Act.put, List.setIfInBounds_toArray, List.set_cons_zero, List.set_cons_succ]
        refine rel_index 35 41 _ _ rfl d 0 n e 3 k rfl rfl hlt Try.underlying35 (by kernel_rfl) rfl rfl (fun x6 => ?_)
        simp only [Act.put, List.setIfInBounds_toArray, List.set_cons_zero, List.set_cons_succ]
        refine rel_load 41 _ rfl d (0 + k * 3) rfl (srow ksScarecrow G k) _ rfl rfl g2.out Try.underlying41 rfl (by rw [srow_size]; kernel_rfl) (fun x7 => ?_)
        simp only [Act.put, List.setIfInBounds_toArray, List.set_cons_zero, List.set_cons_succ]
        refine rel_neq 41 _ _ _ rfl (srow ksScarecrow F k) (srow ksScarecrow G k) rfl rfl (seq 3 (F k) (G k)) rfl rfl (by kernel_rfl) (fun w' => run_equalIn_str (m := 3) F G k k Try.underlying41 (by kernel_rfl) (by kernel_rfl) (by kernel_rfl) (by omega) (hF k hlt) (hG k hlt) w') (fun x8 => ?_)
        simp only [Act.put, List.setIfInBounds_toArray, List.set_cons_zero, List.set_cons_succ]
        refine rel_nil (fun w' inv => ?_)
        have hb' := inv.cls
        clear inv
        cases hs : seq 3 (F k) (G k) with
        | true =>
          go_wp2_with fail
          go_roundw
          case rel => exact ⟨k + 1, by omega, by go_num, hb', Lib.hid (upto_succ hall.out hs)⟩
          case measure => simp [intOf]; omega
        | false =>
          have hc : Hid (allTo n (fun i => seq 3 (F i) (G i)) = false) := Lib.hid (allTo_false hlt hs)
          go_wp2_with fail
          go_ret
          exact ⟨by rw [hc.out]; rfl, hb'⟩
      · obtain rfl : k = n := by omega
        go_wp2_with fail
        go_ret
        exact ⟨by rw [allTo_iff.2 hall.out]; rfl, hb⟩

theorem implSameScares (n m : Nat) (hn : n ≤ 2 ^ 40) (hm : m ≤ 2 ^ 40) (F G : Nat → Nat → Int) (hF : WfS ksScarecrow n F) (hG : WfS ksScarecrow m G) (b d c e : Nat) (w : World) (I1 : InS w b 0 n ksScarecrow F) (I2 : InS w d 0 m ksScarecrow G) :
    Calls Try.prog 11 #[.slice (some ⟨b, 0, none⟩) n c, .slice (some ⟨d, 0, none⟩) m e] w fun e w' => e = .returned (.bool (lseq ksScarecrow n F m G)) ∧ Below w.heap.size w w' := by
  go_enter Try.func11, Try.ntmps11
  go_wp2_with (go_at_call 16; refine (equalScares n m hn hm F G hF hG b d c e _ I1 I2).mono ?_; rintro e w' ⟨rfl, hb⟩)
  go_ret
  exact ⟨rfl, hb⟩
end Go.Proofs.Ytfnpbpokieckcaa
