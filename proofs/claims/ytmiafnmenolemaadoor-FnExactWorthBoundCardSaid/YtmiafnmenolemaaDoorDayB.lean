/-
  The best day of a plot: the loops around it; BestDay.
-/
import Derived.Test.YtmiafnmenolemaaDoorDay
namespace Go.Proofs.YtmiafnmenolemaaDoor
open Go Go.RowKit

set_option maxRecDepth 100000 in
set_option maxHeartbeats 4000000 in
theorem bestDay_any (a : Nat → Int) (hok : plotOk a = true) (n : Nat) (hn : 1 ≤ n ∧ n ≤ 20) (w : World) : Calls Tryd.prog 46 #[vPlot a, .int .i64 n] w fun e w' => e = .returned (.tuple #[.int .i64 (bestD a n), .int .i64 (worthA a (bestD a n))]) ∧ Below w.heap.size w w' := by
  obtain ⟨bd, hbd⟩ : ∃ x, bestD a n = x := ⟨_, rfl⟩
  have HB := Lib.hid hbd
  rw [hbd]
  clear hbd
  obtain ⟨bw, hbw⟩ : ∃ x, worthA a bd = x := ⟨_, rfl⟩
  have HW := Lib.hid hbw
  rw [hbw]
  clear hbw
  have HM : Hid (∀ (Bs : Nat) (w : World), w.cell? ⟨Bs, 0, none⟩ = some (.int .i64 n) → Calls Tryd.prog 56 #[.func (.func 65) #[] #[.pointer (some ⟨Bs, 0, none⟩)], .func (.func 42) #[vPlot a] #[]] w fun e w' => e = .returned (.tuple #[.int .i64 bd, .int .i64 bw]) ∧ Below w.heap.size w w') := Lib.hid (fun Bs w h => by
    have := most_day a hok n hn Bs w h
    rw [HB.out, HW.out] at this
    exact this)
  go_enter Tryd.func46, Tryd.ntmps46
  go_upto_region 1 with (fail)
  obtain ⟨W, hW, M⟩ := open1 w (cPlot a) 48
  rw [hW]; clear hW
  refine wp_region_rel (DL [dV (.int .i64 n), dP (fun v _ _ w9 => ∃ b, v = .func (.func 65) #[] #[.pointer (some ⟨b, 0, none⟩)] ∧ w9.cell? ⟨b, 0, none⟩ = some (.int .i64 n)), dV (.agg (cPlot a)), dV (.func (.func 42) #[vPlot a] #[]), dV (.tuple #[.int .i64 bd, .int .i64 bw]), dV (.int .i64 bd), dV (.int .i64 bw), dV (.int .i64 bd), dV (.int .i64 bw)]) (fun w' => Mem w w' [⟨w.heap.size, cPlot a, 48⟩]) (by kernel_rfl) (by kernel_rfl) grows_mem
    (stays_DL (fun d hd => by
      simp only [List.mem_cons, List.mem_nil_iff, or_false] at hd
      rcases hd with rfl | rfl | rfl | rfl | rfl | rfl | rfl | rfl | rfl <;> first | exact stay_V | exact stay_P)) M.drew ?_
  refine rel_val _ rfl rfl (fun _ _ => rfl) (fun _ => ?_)
  simp only [Act.put, List.setIfInBounds_toArray, List.set_cons_zero, List.set_cons_succ]
  refine rel_callP _ 57 #[.int .i64 n] rfl rfl rfl rfl (enters_of Tryd.func57 (by kernel_rfl) rfl) (fun w' hw' => (numbersBefore_any n w').mono (fun e w2 h => by
    obtain ⟨rfl, rfl⟩ := h
    exact ⟨_, rfl, (Below.refl _ _).alloc (Nat.le_refl _) _, fun w3 hb3 => ⟨w'.heap.size, rfl, cell_later ((Blk.new _ _ _).cell rfl) hb3⟩⟩)) (fun v lo hi _ hv => ?_)
  obtain ⟨_, _, b2, rfl, _⟩ := hv
  simp only [Act.put, List.setIfInBounds_toArray, List.set_cons_zero, List.set_cons_succ]
  refine rel_load 48 _ rfl (w.heap.size) (0) rfl (cPlot a) _ rfl rfl (fun w' hw' => (hw'.at 0 rfl).whole) Tryd.underlying48 rfl (by kernel_rfl) (fun _ => ?_)
  simp only [Act.put, List.setIfInBounds_toArray, List.set_cons_zero, List.set_cons_succ]
  refine rel_val (.func (.func 42) #[vPlot a] #[]) rfl rfl (fun w' _ => by simp [execOp, Act.eval, go_sem]) (fun _ => ?_)
  simp only [Act.put, List.setIfInBounds_toArray, List.set_cons_zero, List.set_cons_succ]
  refine rel_callK 1 (.tuple #[.int .i64 bd, .int .i64 bw]) 56 #[.func (.func 65) #[] #[.pointer (some ⟨b2, 0, none⟩)], .func (.func 42) #[vPlot a] #[]] rfl rfl rfl rfl (enters_of Tryd.func56 (by kernel_rfl) rfl) rfl rfl rfl rfl (fun w' hw' hx => by
    obtain ⟨b', e, I⟩ := hx.1
    cases e
    exact HM.out b2 w' I) (fun _ => ?_)
  simp only [Act.put, List.setIfInBounds_toArray, List.set_cons_zero, List.set_cons_succ]
  refine rel_val _ rfl rfl (fun _ _ => rfl) (fun _ => ?_)
  simp only [Act.put, List.setIfInBounds_toArray, List.set_cons_zero, List.set_cons_succ]
  refine rel_val _ rfl rfl (fun _ _ => rfl) (fun _ => ?_)
  simp only [Act.put, List.setIfInBounds_toArray, List.set_cons_zero, List.set_cons_succ]
  refine rel_val _ rfl rfl (fun _ _ => rfl) (fun _ => ?_)
  simp only [Act.put, List.setIfInBounds_toArray, List.set_cons_zero, List.set_cons_succ]
  refine rel_val _ rfl rfl (fun _ _ => rfl) (fun _ => ?_)
  simp only [Act.put, List.setIfInBounds_toArray, List.set_cons_zero, List.set_cons_succ]
  refine rel_nil (fun W1 inv => ?_)
  have M1 := inv.cls
  clear inv M
  go_wp2_with fail
  go_ret2
  exact ⟨rfl, M1.below⟩
theorem bestD_one (a : Nat → Int) : bestD a 1 = 0 := by simp [bestD, fm]
set_option maxRecDepth 100000 in
set_option maxHeartbeats 4000000 in
theorem l07Best_any (a : Nat → Int) (hok : plotOk a = true) (n : Nat) (hn : 1 ≤ n ∧ n ≤ 20) (w : World) : Calls Tryd.prog 44 #[vPlot a, .int .i64 n] w fun e w' => e = .returned (.tuple #[.int .i64 (bestD a n), .int .i64 (worthA a (bestD a n))]) ∧ Below w.heap.size w w' := by
  have HOK := Lib.hid hok
  clear hok
  go_enter Tryd.func44, Tryd.ntmps44
  go_upto_region 1 with (fail)
  obtain ⟨W, hW, M⟩ := open1 w (cPlot a) 48
  rw [hW]; clear hW
  go_wp2_with fail
  go_loopw [6, 7] (fun b i wr => ∃ k : Nat, 1 ≤ k ∧ k ≤ n ∧ b = .int .i64 (bestD a k) ∧ i = .int .i64 k ∧ Mem w wr [⟨w.heap.size, cPlot a, 48⟩]) (fun _ i _ => n - (intOf i).toNat)
  case atStart => exact ⟨1, by omega, by omega, by rw [bestD_one]; rfl, rfl, M⟩
  case round =>
    clear M
    obtain ⟨k, hk1, hk, rfl, rfl, M⟩ := hrel
    obtain ⟨hn1, hn2⟩ := hn
    have hbk := fm_lt (fun d => worthA a d) k hk1
    obtain ⟨q, hq⟩ : ∃ q, bestD a k = q := ⟨_, rfl⟩
    have hqk : q < k := by rw [← hq]; exact hbk
    have HQ := Lib.hid hq
    rw [hq]
    clear hq hbk
    by_cases hlt : k < n
    · obtain ⟨v1, hv1⟩ : ∃ x, worthA a k = x := ⟨_, rfl⟩
      obtain ⟨v2, hv2⟩ : ∃ x, worthA a q = x := ⟨_, rfl⟩
      have H1 := Lib.hid hv1
      have H2 := Lib.hid hv2
      clear hv1 hv2
      have hst : Hid (bestD a (k + 1) = if v2 < v1 then k else q) := Lib.hid (by
        show (if worthA a (bestD a k : Nat) < worthA a k then k else bestD a k) = _
        rw [HQ.out, H1.out, H2.out])
      go_upto_region 5 with (fail)
      refine wp_region_rel (DL [dV (.agg (cPlot a)), dV (.int .i64 (k : Int)), dV (.int .i64 v1), dV (.agg (cPlot a)), dV (.int .i64 (q : Int)), dV (.int .i64 v2), dV (.bool (decide (v2 < v1)))]) (fun w' => Mem w w' [⟨w.heap.size, cPlot a, 48⟩]) (by kernel_rfl) (by kernel_rfl) grows_mem
        (stays_DL (fun d hd => by
          simp only [List.mem_cons, List.mem_nil_iff, or_false] at hd
          rcases hd with rfl | rfl | rfl | rfl | rfl | rfl | rfl <;> exact stay_V)) M.drew ?_
      refine rel_load 48 _ rfl (w.heap.size) (0) rfl (cPlot a) _ rfl rfl (fun w' hw' => (hw'.at 0 rfl).whole) Tryd.underlying48 rfl (by kernel_rfl) (fun _ => ?_)
      simp only [Act.put, List.setIfInBounds_toArray, List.set_cons_zero, List.set_cons_succ]
      refine rel_val _ rfl rfl (fun _ _ => rfl) (fun _ => ?_)
      simp only [Act.put, List.setIfInBounds_toArray, List.set_cons_zero, List.set_cons_succ]
      refine rel_call (.int .i64 v1) 39 #[vPlot a, .int .i64 (k : Int)] rfl rfl rfl rfl (enters_of Tryd.func39 (by kernel_rfl) rfl) (fun w' _ => by have h := l07Worth_any a HOK.out (k : Int) (by omega) w'; rw [H1.out] at h; exact h) (fun _ => ?_)
      simp only [Act.put, List.setIfInBounds_toArray, List.set_cons_zero, List.set_cons_succ]
      refine rel_load 48 _ rfl (w.heap.size) (0) rfl (cPlot a) _ rfl rfl (fun w' hw' => (hw'.at 0 rfl).whole) Tryd.underlying48 rfl (by kernel_rfl) (fun _ => ?_)
      simp only [Act.put, List.setIfInBounds_toArray, List.set_cons_zero, List.set_cons_succ]
      refine rel_val _ rfl rfl (fun _ _ => rfl) (fun _ => ?_)
      simp only [Act.put, List.setIfInBounds_toArray, List.set_cons_zero, List.set_cons_succ]
      refine rel_call (.int .i64 v2) 39 #[vPlot a, .int .i64 (q : Int)] rfl rfl rfl rfl (enters_of Tryd.func39 (by kernel_rfl) rfl) (fun w' _ => by have h := l07Worth_any a HOK.out (q : Int) (by omega) w'; rw [H2.out] at h; exact h) (fun _ => ?_)
      simp only [Act.put, List.setIfInBounds_toArray, List.set_cons_zero, List.set_cons_succ]
      refine rel_val (.bool (decide (v2 < v1))) rfl rfl (fun w' _ => by simp [execOp, Act.eval, go_sem]) (fun _ => ?_)
      simp only [Act.put, List.setIfInBounds_toArray, List.set_cons_zero, List.set_cons_succ]
      refine rel_nil (fun W1 inv => ?_)
      have M1 := inv.cls
      clear inv M
      by_cases hgt : v2 < v1
      · rw [if_pos hgt] at hst
        have hd : decide (v2 < v1) = true := decide_eq_true hgt
        rw [hd]
        go_wp2_with fail
        go_roundw
        case rel => exact ⟨k + 1, by omega, by omega, by rw [hst.out], by go_num, M1⟩
        case measure => simp [intOf]; omega
      · rw [if_neg hgt] at hst
        have hd : decide (v2 < v1) = false := decide_eq_false hgt
        rw [hd]
        go_wp2_with fail
        go_roundw
        case rel => exact ⟨k + 1, by omega, by omega, by rw [hst.out], by go_num, M1⟩
        case measure => simp [intOf]; omega
    · obtain rfl : k = n := by omega
      obtain ⟨v2, hv2⟩ : ∃ x, worthA a q = x := ⟨_, rfl⟩
      have H2 := Lib.hid hv2
      clear hv2
      go_wp2_with (first
        | (refine wpList_load_part rfl 48 _ rfl w.heap.size 0 rfl (cPlot a) _ (M.at 0 rfl).whole Tryd.underlying48 rfl (by kernel_rfl) ?_)
        | (go_at_call 39; refine (l07Worth_any a HOK.out q (by omega) _).mono ?_; rintro e w3 ⟨rfl, hb3⟩; rw [H2.out]))
      go_ret2
      exact ⟨by rw [HQ.out, H2.out]; rfl, M.below.trans (hb3.mono M.below.size)⟩
end Go.Proofs.YtmiafnmenolemaaDoor
