/-
  The fear of a cell: the model's greatest of a list.
-/
import Derived.Test.YteclngooblafoaaDoorFearAt
import Derived.Test.YteclngooblafoaaDoorCoreB
namespace Go.Proofs.YteclngooblafoaaDoor
open Go Go.RowKit

theorem sqS (x c : Int) (hx : 0 ≤ x ∧ x ≤ 99) (hc : 0 ≤ c ∧ c ≤ 99) (w : World) : Calls Tryd.prog 67 #[.int .i64 x, .int .i64 c] w fun e w' => e = .returned (.int .i64 (sq x c)) ∧ w = w' := by
  obtain ⟨m, rfl⟩ : ∃ m : Nat, x = (m : Int) := ⟨x.toNat, by omega⟩
  obtain ⟨k, rfl⟩ : ∃ k : Nat, c = (k : Int) := ⟨c.toNat, by omega⟩
  exact l01Square_any m k (by omega) (by omega) w
set_option maxRecDepth 100000 in
set_option maxHeartbeats 2000000 in
theorem l03Fear_any (n : Nat) (hn : n ≤ 2 ^ 40) (F : Nat → Nat → Int) (hF : ∀ i, i < n → WfT (F i)) (hS : ∀ i, i < n → shapeOk (F i) = true) (c : Int) (hc : 0 ≤ c ∧ c ≤ 99) (d cap : Nat) (w : World) (I : InS w d 0 n ksScarecrow F) :
    Calls Tryd.prog 61 #[.slice (some ⟨d, 0, none⟩) n cap, .int .i64 c] w fun e w' => e = .returned (.int .i64 (fearTo F c n)) ∧ Below w.heap.size w w' := by
  have HI := Lib.hid I
  have HS := Lib.hid hS
  have HF := Lib.hid hF
  clear I hS hF
  go_enter Tryd.func61, Tryd.ntmps61
  go_wp2_with fail
  go_loopw [5, 6] (fun v i wr => ∃ k : Nat, k ≤ n ∧ v = .int .i64 (fearTo F c k) ∧ i = .int .i64 k ∧ Below w.heap.size w wr) (fun _ i _ => n - (intOf i).toNat)
  case atStart => exact ⟨0, by omega, rfl, rfl, Below.refl _ _⟩
  case round =>
    obtain ⟨k, hk, rfl, rfl, hb⟩ := hrel
    by_cases hlt : k < n
    · have g1 : Hid (∀ w', Below w.heap.size w w' → w'.rangeAt d (0 + k * 3) (srow ksScarecrow F k).toList) := Lib.hid (fun w' hw' => InS.elem (ks := ksScarecrow) HI.out (by decide) hw' hlt)
      have h := HS.out k hlt
      have ha := HF.out k hlt
      have hb0 : 0 ≤ F k 0 ∧ F k 0 ≤ 99 := by simp only [shapeOk, Bool.and_eq_true, inB_iff] at h; exact h.1.1
      have hs := sq_in hb0 hc
      have hf := fear_in h hc
      have hcn := cnt_in h
      have hw0 : Hid (wrap64 (F k 0) = F k 0) := Lib.hid (by unfold wrap64; omega)
      have hw1 : Hid (wrap64 (1 + sq (F k 0) c) = 1 + sq (F k 0) c) := Lib.hid (by unfold wrap64; omega)
      have hne : ¬ (1 + sq (F k 0) c = 0) := by omega
      have hdiv : Hid (wrap64 ((cntA (F k)).tdiv (1 + sq (F k 0) c)) = fearA (F k) c) := Lib.hid (by
        rw [Int.tdiv_eq_ediv_of_nonneg hcn.1]
        unfold fearA at hf ⊢
        unfold wrap64; omega)
      go_upto_region 5 with (fail)
      refine wp_region_rel (DL [dV (.int .i64 (fearTo F c k)), dV (.slice (some ⟨d, 0, none⟩) n cap), dV (.int .i64 k), dV (.pointer (some ⟨d, 0 + k * 3, none⟩)), dV (.agg (srow ksScarecrow F k)), dV (.int .i64 (cntA (F k))), dV (.slice (some ⟨d, 0, none⟩) n cap), dV (.int .i64 k), dV (.pointer (some ⟨d, 0 + k * 3, none⟩)), dV (.pointer (some ⟨d, 0 + k * 3, none⟩)), dV (.int .i16 (F k 0)), dV (.int .i64 (F k 0)), dV (.int .i64 c), dV (.int .i64 (sq (F k 0) c)), dV (.int .i64 (1 + sq (F k 0) c)), dV (.int .i64 (fearA (F k) c)), dV (.int .i64 (fearTo F c (k + 1))), dV (.int .i64 (fearTo F c (k + 1)))]) (fun w' => Below w.heap.size w w') (by kernel_rfl) (by kernel_rfl) (fun _ _ h h' => h.trans (h'.mono h.size))
        (stays_DL (fun d hd => by
          simp only [List.mem_cons, List.mem_nil_iff, or_false] at hd
          rcases hd with rfl | rfl | rfl | rfl | rfl | rfl | rfl | rfl | rfl | rfl | rfl | rfl | rfl | rfl | rfl | rfl | rfl | rfl <;> exact stay_V)) hb.drew ?_
      refine rel_val _ rfl rfl (fun _ _ => rfl) (fun _ => ?_)
      simp only [Act.put, List.setIfInBounds_toArray, List.set_cons_zero, List.set_cons_succ]
      refine rel_val _ rfl rfl (fun _ _ => rfl) (fun _ => ?_)
      simp only [Act.put, List.setIfInBounds_toArray, List.set_cons_zero, List.set_cons_succ]
      refine rel_val _ rfl rfl (fun _ _ => rfl) (fun _ => ?_)
      simp only [Act.put, List.setIfInBounds_toArray, List.set_cons_zero, List.set_cons_succ]
      refine rel_index 44 71 _ _ rfl d 0 n cap 3 k rfl rfl hlt Tryd.underlying44 (by kernel_rfl) rfl rfl (fun _ => ?_)
      simp only [Act.put, List.setIfInBounds_toArray, List.set_cons_zero, List.set_cons_succ]
      refine rel_load 71 _ rfl d (0 + k * 3) rfl (srow ksScarecrow F k) _ rfl rfl g1.out Tryd.underlying71 rfl (by rw [srow_size]; kernel_rfl) (fun _ => ?_)
      simp only [Act.put, List.setIfInBounds_toArray, List.set_cons_zero, List.set_cons_succ]
      refine rel_call (.int .i64 (cntA (F k))) 77 #[vScarecrow (F k)] rfl rfl rfl rfl (enters_of Tryd.func77 (by kernel_rfl) rfl) (fun w' _ => l03Counts_any (F k) ha h w') (fun _ => ?_)
      simp only [Act.put, List.setIfInBounds_toArray, List.set_cons_zero, List.set_cons_succ]
      refine rel_val _ rfl rfl (fun _ _ => rfl) (fun _ => ?_)
      simp only [Act.put, List.setIfInBounds_toArray, List.set_cons_zero, List.set_cons_succ]
      refine rel_val _ rfl rfl (fun _ _ => rfl) (fun _ => ?_)
      simp only [Act.put, List.setIfInBounds_toArray, List.set_cons_zero, List.set_cons_succ]
      refine rel_index 44 71 _ _ rfl d 0 n cap 3 k rfl rfl hlt Tryd.underlying44 (by kernel_rfl) rfl rfl (fun _ => ?_)
      simp only [Act.put, List.setIfInBounds_toArray, List.set_cons_zero, List.set_cons_succ]
      refine rel_val (.pointer (some ⟨d, 0 + k * 3, none⟩)) rfl rfl (fun _ _ => rfl) (fun _ => ?_)
      simp only [Act.put, List.setIfInBounds_toArray, List.set_cons_zero, List.set_cons_succ]
      refine rel_cell 24 _ rfl d (0 + k * 3) rfl (.int .i16 (F k 0)) rfl rfl (fun w' c => load_i16 _ _ _ w' c) (fun w' hw' => (scrAt_of (g1.out w' hw')).c0) (fun _ => ?_)
      simp only [Act.put, List.setIfInBounds_toArray, List.set_cons_zero, List.set_cons_succ]
      refine rel_val (.int .i64 (F k 0)) rfl rfl (fun w' _ => by
        have e : IntKind.i64.wrap (F k 0) = F k 0 := by
          have e := hw0.out
          unfold wrap64 at e
          rw [IntKind.wrap_i64]; exact e
        simp [execOp, Act.eval, go_sem, Tryd.underlying24, Tryd.underlying2, e]) (fun _ => ?_)
      simp only [Act.put, List.setIfInBounds_toArray, List.set_cons_zero, List.set_cons_succ]
      refine rel_val (.int .i64 c) rfl rfl (fun _ _ => rfl) (fun _ => ?_)
      simp only [Act.put, List.setIfInBounds_toArray, List.set_cons_zero, List.set_cons_succ]
      refine rel_call (.int .i64 (sq (F k 0) c)) 67 #[.int .i64 (F k 0), .int .i64 c] rfl rfl rfl rfl (enters_of Tryd.func67 (by kernel_rfl) rfl) (fun w' _ => (sqS (F k 0) c hb0 hc w').mono (fun e w2 h => ⟨h.1, by rw [h.2]; exact Below.refl _ _⟩)) (fun _ => ?_)
      simp only [Act.put, List.setIfInBounds_toArray, List.set_cons_zero, List.set_cons_succ]
      refine rel_val (.int .i64 (1 + sq (F k 0) c)) rfl rfl (fun w' _ => by
        have e : IntKind.i64.wrap (1 + sq (F k 0) c) = 1 + sq (F k 0) c := by
          have e := hw1.out
          unfold wrap64 at e
          rw [IntKind.wrap_i64]; exact e
        simp [execOp, Act.eval, go_sem, e]) (fun _ => ?_)
      simp only [Act.put, List.setIfInBounds_toArray, List.set_cons_zero, List.set_cons_succ]
      refine rel_val (.int .i64 (fearA (F k) c)) rfl rfl (fun w' _ => by
        have e : IntKind.i64.wrap ((cntA (F k)).tdiv (1 + sq (F k 0) c)) = fearA (F k) c := by
          have e := hdiv.out
          unfold wrap64 at e
          rw [IntKind.wrap_i64]; exact e
        simp [execOp, Act.eval, go_sem, hne, e]) (fun _ => ?_)
      simp only [Act.put, List.setIfInBounds_toArray, List.set_cons_zero, List.set_cons_succ]
      refine rel_call (.int .i64 (fearTo F c (k + 1))) 76 #[.int .i64 (fearTo F c k), .int .i64 (fearA (F k) c)] rfl rfl rfl rfl (enters_of Tryd.func76 (by kernel_rfl) rfl) (fun w' _ => (l00Max_any (fearTo F c k) (fearA (F k) c) w').mono (fun e w2 h => ⟨h.1, by rw [h.2]; exact Below.refl _ _⟩)) (fun _ => ?_)
      simp only [Act.put, List.setIfInBounds_toArray, List.set_cons_zero, List.set_cons_succ]
      refine rel_val _ rfl rfl (fun _ _ => rfl) (fun _ => ?_)
      simp only [Act.put, List.setIfInBounds_toArray, List.set_cons_zero, List.set_cons_succ]
      refine rel_nil (fun w' inv => ?_)
      have hb' := inv.cls
      clear inv
      go_wp2_with fail
      go_roundw
      case rel => exact ⟨k + 1, by omega, rfl, by go_num, hb'⟩
      case measure => simp [intOf]; omega
    · obtain rfl : k = n := by omega
      go_wp2_with fail
      go_ret
      exact ⟨rfl, hb⟩
end Go.Proofs.YteclngooblafoaaDoor
