/-
  Beats that begin later: the model's, the program's.
-/
import Derived.Test.YtdjbaajcgipebaaDoorJoinI
import Derived.Test.YtdjbaajcgipebaaDoorRelA
namespace Go.Proofs.YtdjbaajcgipebaaDoor
open Go Go.RowKit

def okB (f : Fd) (n : Nat) (g : Nat → Int) : Bool := okF f && beatOk f n g
/-- The code of a beat, a sight and whether numbers are as told. -/
def beatAsk (f : Fd) (n : Nat) (g : Nat → Int) (sight : Int) (fine : Bool) : Int := if okB f n g then (if inB sight 0 50 && fine then 0 else 2) else 1
theorem beatAsk_no {f : Fd} {n : Nat} {g : Nat → Int} {s : Int} {fine : Bool} (h : okB f n g = false) : beatAsk f n g s fine = 1 := by unfold beatAsk; rw [h]; rfl
theorem beatAsk_bad {f : Fd} {n : Nat} {g : Nat → Int} {s : Int} {fine : Bool} (h : okB f n g = true) (h2 : (inB s 0 50 && fine) = false) : beatAsk f n g s fine = 2 := by unfold beatAsk; rw [h, h2]; rfl
theorem beatAsk_ok {f : Fd} {n : Nat} {g : Nat → Int} {s : Int} {fine : Bool} (h : okB f n g = true) (h2 : (inB s 0 50 && fine) = true) : beatAsk f n g s fine = 0 := by unfold beatAsk; rw [h, h2]; rfl
theorem okB_iff {f : Fd} {n : Nat} {g : Nat → Int} (h : okB f n g = true) : okF f = true ∧ 1 ≤ n ∧ n ≤ 40 := by
  unfold okB at h
  rw [Bool.and_eq_true] at h
  have := beatOk_iff h.2
  exact ⟨h.1, this.1, this.2.1⟩
set_option maxRecDepth 100000 in
theorem l05Asked_any (f : Fd) (hf : f.Wf) (n : Nat) (hn : n ≤ 2 ^ 40) (g : Nat → Int) (hg : WfH n g) (s : Int) (fine : Bool) (b0 b c : Nat) (w : World) (B : Blk w b0 (fcells f) 30) (I : InH w b 0 n g) :
    Calls Tryd.prog 41 #[.pointer (some ⟨b0, 0, none⟩), .slice (some ⟨b, 0, none⟩) n c, .int .i64 s, .bool fine] w fun e w' => e = .returned (.int .i64 (beatAsk f n g s fine)) ∧ w = w' := by
  have HB := Lib.hid B
  have HI := Lib.hid I
  clear B I
  cases hq : okB f n g with
  | false =>
    rw [beatAsk_no hq]
    have HQ : Hid ((okF f && beatOk f n g) = false) := Lib.hid hq
    clear hq
    go_enter Tryd.func41, Tryd.ntmps41
    go_wp2_with (go_at_call 37; refine (l05Ok_any f hf n hn g hg b0 b c _ HB.out HI.out).mono ?_; rintro e w' ⟨rfl, rfl⟩; rw [HQ.out])
    go_ret
    exact ⟨rfl, rfl⟩
  | true =>
    have HQ : Hid ((okF f && beatOk f n g) = true) := Lib.hid hq
    cases hs : inB s 0 50 with
    | false =>
      rw [beatAsk_bad hq (by rw [hs]; rfl)]
      clear hq
      go_enter Tryd.func41, Tryd.ntmps41
      go_wp2_with (first
        | (go_at_call 37; refine (l05Ok_any f hf n hn g hg b0 b c _ HB.out HI.out).mono ?_; rintro e w' ⟨rfl, rfl⟩; rw [HQ.out])
        | (go_at_call 42; refine (l00In_any _ _ _ _).mono ?_; rintro e w' ⟨rfl, rfl⟩; rw [hs]))
      go_ret
      exact ⟨rfl, rfl⟩
    | true =>
      cases fine with
      | false =>
        rw [beatAsk_bad hq (by rw [hs]; rfl)]
        clear hq
        go_enter Tryd.func41, Tryd.ntmps41
        go_wp2_with (first
          | (go_at_call 37; refine (l05Ok_any f hf n hn g hg b0 b c _ HB.out HI.out).mono ?_; rintro e w' ⟨rfl, rfl⟩; rw [HQ.out])
          | (go_at_call 42; refine (l00In_any _ _ _ _).mono ?_; rintro e w' ⟨rfl, rfl⟩; rw [hs]))
        go_ret
        exact ⟨rfl, rfl⟩
      | true =>
        rw [beatAsk_ok hq (by rw [hs]; rfl)]
        clear hq
        go_enter Tryd.func41, Tryd.ntmps41
        go_wp2_with (first
          | (go_at_call 37; refine (l05Ok_any f hf n hn g hg b0 b c _ HB.out HI.out).mono ?_; rintro e w' ⟨rfl, rfl⟩; rw [HQ.out])
          | (go_at_call 42; refine (l00In_any _ _ _ _).mono ?_; rintro e w' ⟨rfl, rfl⟩; rw [hs]))
        go_ret
        exact ⟨rfl, rfl⟩
def turnCode (f : Fd) (n : Nat) (g : Nat → Int) (x : Int) : Int := beatAsk f n g 0 (inB x 0 ((n : Int) - 1))
def turnN (f : Fd) (n : Nat) (g : Nat → Int) (x : Int) : Nat := if turnCode f n g x = 0 then n else 0
def turnG (n : Nat) (g : Nat → Int) (x : Int) (i : Nat) : Int := if i + x.toNat < n then g (i + x.toNat) else g (i + x.toNat - n)
theorem turnN_le (f : Fd) (n : Nat) (g : Nat → Int) (x : Int) : turnN f n g x ≤ n := by unfold turnN; split <;> omega
def TurnP (f : Fd) (n : Nat) (g : Nat → Int) (x : Int) (w : World) (e : Ending) (w' : World) : Prop :=
  ∃ p c, e = .returned (.tuple #[.slice p (turnN f n g x) c, .int .i64 (turnCode f n g x)]) ∧ HV w.heap.size w'.heap.size w' p (turnN f n g x) (turnG n g x) ∧ HW w.heap.size w'.heap.size w' p (turnN f n g x) ∧ Below w.heap.size w w'
theorem turnP_bad {f : Fd} {n : Nat} {g : Nat → Int} {x : Int} {w w' : World} {c0 : Int} (hc : turnCode f n g x = c0) (hne : c0 ≠ 0) (p : Option Addr) (c : Nat) (hb : Below w.heap.size w w') : TurnP f n g x w (.returned (.tuple #[.slice p 0 c, .int .i64 c0])) w' := by
  have hN : turnN f n g x = 0 := by unfold turnN; rw [hc, if_neg hne]
  exact ⟨p, c, by rw [hN, hc], .inl hN, .inl hN, hb⟩
theorem nums_take_drop (g : Nat → Int) (n k : Nat) (hk : k ≤ n) : nums (fun i => g (i + k)) (n - k) ++ nums g k = nums (fun i => if i + k < n then g (i + k) else g (i + k - n)) n := by
  rw [nums_append, show n - k + k = n by omega]
  unfold nums
  apply List.map_congr_left
  intro i hi
  by_cases h : i < n - k
  · rw [if_pos h, if_pos (by omega)]
  · rw [if_neg h, if_neg (by omega)]; congr 1; omega
theorem InH.part {w : World} {b n : Nat} {g : Nat → Int} (h : InH w b 0 n g) (k : Nat) : InH w b k (n - k) (fun i => g (i + k)) := fun i hi => by
  have := h (i + k) (by omega)
  rw [show k + i = 0 + (i + k) by omega]; exact this
theorem InH.head {w : World} {b n : Nat} {g : Nat → Int} (h : InH w b 0 n g) (k : Nat) (hk : k ≤ n) : InH w b 0 k g := fun i hi => h i (by omega)
set_option maxRecDepth 100000 in
set_option maxHeartbeats 4000000 in
theorem specTurnBeat (f : Fd) (hf : f.Wf) (n : Nat) (hn : n ≤ 2 ^ 40) (g : Nat → Int) (hg : WfH n g) (x : Int) (hx : -9223372036854775808 ≤ x ∧ x ≤ 9223372036854775807) (b : Nat) (w : World) (I : InH w b 0 n g) :
    Calls Tryd.prog 16 #[.agg (fcells f), .slice (some ⟨b, 0, none⟩) n n, .int .i64 x] w (TurnP f n g x w) := by
  have HI := Lib.hid I
  clear I
  obtain ⟨i0, hinf, hz0, hz1, hz2⟩ := info_parts Hinfo
  obtain ⟨fine, hfine⟩ : ∃ y, inB x 0 ((n : Int) - 1) = y := ⟨_, rfl⟩
  have HF := Lib.hid hfine
  obtain ⟨c0, hc0⟩ : ∃ y, beatAsk f n g 0 fine = y := ⟨_, rfl⟩
  have HC := Lib.hid hc0
  have HT : Hid (turnCode f n g x = c0) := Lib.hid (by unfold turnCode; rw [hfine, hc0])
  clear hfine hc0
  by_cases hz : c0 = 0
  · have hok : okB f n g = true ∧ fine = true := by
      have h := HC.out
      rw [hz] at h
      cases q : okB f n g with
      | false => rw [beatAsk_no q] at h; exact absurd h (by decide)
      | true =>
        cases q2 : fine with
        | true => exact ⟨rfl, rfl⟩
        | false => rw [beatAsk_bad q (by rw [q2, Bool.and_false])] at h; exact absurd h (by decide)
    obtain ⟨_, n1, n2⟩ := okB_iff hok.1
    have hb := inB_iff.1 (HF.out.trans hok.2)
    obtain ⟨k, rfl⟩ : ∃ k : Nat, x = (k : Int) := ⟨x.toNat, by omega⟩
    have hkn : k < n := by omega
    have hcn : ¬ n = k := by omega
    obtain rfl : c0 = 0 := hz
    clear hok hb
    go_enter Tryd.func16, Tryd.ntmps16
    go_upto_region 1 with (fail)
    obtain ⟨W, hW, M⟩ := open1 w (fcells f) 30
    rw [hW]; clear hW
    go_upto_region 4 with (first
      | (go_at_call 42; refine (l00In_any _ _ _ _).mono ?_; rintro e w' ⟨rfl, rfl⟩; rw [HF.out])
      | (go_at_call 41; refine (l05Asked_any f hf n hn g hg 0 fine _ b n _ (M.at 0 rfl) (HI.out.later M.below)).mono ?_; rintro e w' ⟨rfl, rfl⟩; rw [HC.out]))
    refine wp_region_rel_tail 8 (DL [dP (fun v lo _ _ => v = .slice (some ⟨lo, 0, none⟩) 0 0), dV (.slice (some ⟨b, 0, none⟩) n n), dV (.int .i64 k), dV (.slice (some ⟨b, k, none⟩) (n - k) (n - k)), dP (fun v lo _ w => w.ownsRow lo 24 1 v (n - k) ((nums (fun i => g (i + k)) (n - k)).map (Value.int .i16))), dV (.slice (some ⟨b, 0, none⟩) n n), dV (.int .i64 k), dV (.slice (some ⟨b, 0, none⟩) k n)]) (fun w' => Mem w w' [⟨w.heap.size, fcells f, 30⟩]) (by kernel_rfl) (by kernel_rfl) grows_mem
      (stays_DL (fun d hd => by
        simp only [List.mem_cons, List.mem_nil_iff, or_false] at hd
        rcases hd with rfl | rfl | rfl | rfl | rfl | rfl | rfl | rfl <;> first | exact stay_V | exact stay_P)) M.drew ?_
    refine rel_runP _ rfl rfl (fun w9 _ => ⟨.slice (some ⟨w9.heap.size, 0, none⟩) 0 0, w9.alloc (.cells #[] 24), by simp [execOp, go_sem], (Below.refl _ _).alloc (Nat.le_refl _) _, fun _ _ => rfl⟩) (fun v lo hi hle ⟨_, _, hv⟩ => ?_)
    subst hv
    simp only [Act.put, List.setIfInBounds_toArray, List.set_cons_zero, List.set_cons_succ]
    refine rel_val _ rfl rfl (fun _ _ => rfl) (fun _ => ?_)
    simp only [Act.put, List.setIfInBounds_toArray, List.set_cons_zero, List.set_cons_succ]
    refine rel_val _ rfl rfl (fun _ _ => rfl) (fun _ => ?_)
    simp only [Act.put, List.setIfInBounds_toArray, List.set_cons_zero, List.set_cons_succ]
    refine rel_val (.slice (some ⟨b, k, none⟩) (n - k) (n - k)) rfl rfl (fun w9 _ => by simp [execOp, Act.eval, go_sem]; rw [if_pos (by omega), if_neg hcn]) (fun _ => ?_)
    simp only [Act.put, List.setIfInBounds_toArray, List.set_cons_zero, List.set_cons_succ]
    refine rel_append_new _ _ 32 rfl 24 i0 (.int .i16 0) 1 2 Tryd.underlying32 hinf hz0 hz1 hz2 rfl (by decide) ⟨lo, 0, none⟩ rfl ⟨b, k, none⟩ (n - k) (n - k) ((nums (fun i => g (i + k)) (n - k)).map (Value.int .i16)) rfl (by rw [List.length_map, nums_length]; omega) (fun w9 h9 => Hnews ((HI.out.later h9.below).part k)) (by omega) (by unfold maxLen; omega) (by omega) rfl rfl (fun v1 lo1 hi1 hle1 _ => ?_)
    simp only [Act.put, List.setIfInBounds_toArray, List.set_cons_zero, List.set_cons_succ]
    refine rel_val _ rfl rfl (fun _ _ => rfl) (fun _ => ?_)
    simp only [Act.put, List.setIfInBounds_toArray, List.set_cons_zero, List.set_cons_succ]
    refine rel_val _ rfl rfl (fun _ _ => rfl) (fun _ => ?_)
    simp only [Act.put, List.setIfInBounds_toArray, List.set_cons_zero, List.set_cons_succ]
    refine rel_val (.slice (some ⟨b, 0, none⟩) k n) rfl rfl (fun w9 _ => by simp [execOp, Act.eval, go_sem]; intro h9; omega) (fun _ => ?_)
    simp only [Act.put, List.setIfInBounds_toArray, List.set_cons_zero, List.set_cons_succ]
    refine rel_nil (fun W1 inv => ?_)
    have M1 := Lib.hid inv.cls
    have O1 : Hid (W1.ownsRow lo1 24 1 v1 (n - k) ((nums (fun i => g (i + k)) (n - k)).map (Value.int .i16))) := Lib.hid (inv.fact 4 _ rfl).2.2.2.1
    have L1 : W.heap.size ≤ lo1 := (inv.fact 4 _ rfl).1
    have L2 : lo1 ≤ W1.heap.size := Nat.le_trans (inv.fact 4 _ rfl).2.1 (inv.fact 4 _ rfl).2.2.1
    clear inv
    have s0 := M.below.size
    have HR0 := O1
    have C1 : Hid (Below W.heap.size W1 W1) := Lib.hid (Below.refl _ _)
    change wpList _ _ _ (_ :: _ :: [_]) _ _
    go_wp2_with (at_builtin; refine wpList_append_own _ rfl _ _ 32 rfl lo1 24 i0 (.int .i16 0) 1 2 Tryd.underlying32 hinf hz0 hz1 hz2 rfl (by decide) _ _ _ rfl O1.out ⟨b, 0, none⟩ k n ((nums g k).map (Value.int .i16)) rfl (by rw [List.length_map, nums_length]; omega) (Hnews ((HI.out.later M1.out.below).head k (by omega))) (Hone _) (by unfold maxLen; omega) (by omega) L2 ?_; intro v2 w2 ho2 hg2 _; have C2 := Lib.hid (below_own (Below.refl lo1 W1) L2 O1.out hg2); have O2 := Lib.hid ho2; clear ho2 hg2)
    go_ret2
    have e1 : n - k + k = n := by omega
    have O3 := O2.out
    rw [← List.map_append, nums_take_drop g n k (by omega), e1] at O3
    obtain ⟨p, c, rfl, V, X⟩ := Hown (nums_length _ _) O3
    have hN : turnN f n g (k : Int) = n := by unfold turnN; rw [HT.out, if_pos rfl]
    refine ⟨p, c, by rw [hN, HT.out]; rfl, ?_, ?_, M1.out.below.trans (C2.out.mono (by omega))⟩
    · rw [hN]; exact (V.congr (fun i hi => by rw [nums_getD _ _ _ hi]; rfl)).mono (by omega) (Nat.le_refl _)
    · rw [hN]; exact X.mono (by omega) (Nat.le_refl _)
  · have hne : (c0 != 0) = true := by simpa using hz
    go_enter Tryd.func16, Tryd.ntmps16
    go_upto_region 1 with (fail)
    obtain ⟨W, hW, M⟩ := open1 w (fcells f) 30
    rw [hW]; clear hW
    go_wp2_with (first
      | (go_at_call 42; refine (l00In_any _ _ _ _).mono ?_; rintro e w' ⟨rfl, rfl⟩; rw [HF.out])
      | (go_at_call 41; refine (l05Asked_any f hf n hn g hg 0 fine _ b n _ (M.at 0 rfl) (HI.out.later M.below)).mono ?_; rintro e w' ⟨rfl, rfl⟩; rw [HC.out]))
    go_ret2
    exact turnP_bad HT.out hz _ _ (M.alloc _ _).below
end Go.Proofs.YtdjbaajcgipebaaDoor
