/-
  Valid beats: the model's test, the program's.
-/
import Derived.Test.YtfchbdbfokpcdaaDoorBt
import Derived.Test.YtfchbdbfokpcdaaDoorRelC
namespace Go.Proofs.YtfchbdbfokpcdaaDoor
open Go Go.RowKit

def prv (n i : Nat) : Nat := (i + n - 1) % n
def nxt (n i : Nat) : Nat := (i + 1) % n
def stepS (f : Fd) (n : Nat) (g : Nat → Int) (i : Nat) : Bool := walkQ f (g i) && isCell f (g (prv n i)) && decide (sqG (g (prv n i)) (g i) ≤ 1)
def beatOk (f : Fd) (n : Nat) (g : Nat → Int) : Bool := inB n 1 40 && allTo n (stepS f n g)
theorem prv_lt {n i : Nat} (hn : 0 < n) : prv n i < n := Nat.mod_lt _ hn
theorem nxt_lt {n i : Nat} (hn : 0 < n) : nxt n i < n := Nat.mod_lt _ hn
theorem prv_nxt {n i : Nat} (hi : i < n) : prv n (nxt n i) = i := by
  unfold prv nxt
  by_cases e : i + 1 = n
  · rw [e, Nat.mod_self, Nat.zero_add, Nat.mod_eq_of_lt (by omega)]; omega
  · rw [Nat.mod_eq_of_lt (show i + 1 < n by omega), show i + 1 + n - 1 = i + n by omega, Nat.add_mod_right, Nat.mod_eq_of_lt hi]
theorem nxt_prv {n i : Nat} (hi : i < n) : nxt n (prv n i) = i := by
  unfold prv nxt
  by_cases e : i = 0
  · subst e; rw [Nat.zero_add, Nat.mod_eq_of_lt (show n - 1 < n by omega), show n - 1 + 1 = n by omega, Nat.mod_self]
  · rw [show i + n - 1 = (i - 1) + n by omega, Nat.add_mod_right, Nat.mod_eq_of_lt (show i - 1 < n by omega), show i - 1 + 1 = i by omega, Nat.mod_eq_of_lt hi]
theorem stepS_iff {f : Fd} {n : Nat} {g : Nat → Int} {i : Nat} : stepS f n g i = true ↔ walkQ f (g i) = true ∧ isCell f (g (prv n i)) = true ∧ sqG (g (prv n i)) (g i) ≤ 1 := by
  unfold stepS; simp only [Bool.and_eq_true, decide_eq_true_eq]
  exact ⟨fun ⟨⟨a, b⟩, c⟩ => ⟨a, b, c⟩, fun ⟨a, b, c⟩ => ⟨⟨a, b⟩, c⟩⟩
theorem beatOk_no {f : Fd} {n : Nat} {g : Nat → Int} (h : inB n 1 40 = false) : beatOk f n g = false := by unfold beatOk; rw [h]; rfl
theorem beatOk_bad {f : Fd} {n : Nat} {g : Nat → Int} {i : Nat} (hi : i < n) (h : stepS f n g i = false) : beatOk f n g = false := by unfold beatOk; rw [allTo_false hi h, Bool.and_false]
/-- The program's rounds. -/
theorem beatOk_all {f : Fd} {n : Nat} {g : Nat → Int} (h : inB n 1 40 = true) (h1 : ∀ i, i < n → walkQ f (g i) = true ∧ sqG (g i) (g (nxt n i)) ≤ 1) : beatOk f n g = true := by
  have hn := inB_iff.1 h
  unfold beatOk
  rw [h, Bool.true_and, allTo_iff]
  intro i hi
  have hp := prv_lt (i := i) (show 0 < n by omega)
  have h2 := (h1 _ hp).2
  rw [nxt_prv hi] at h2
  exact stepS_iff.2 ⟨(h1 i hi).1, walkQ_cell (h1 _ hp).1, h2⟩
theorem beatOk_walk {f : Fd} {n : Nat} {g : Nat → Int} {i : Nat} (hi : i < n) (h : walkQ f (g i) = false) : beatOk f n g = false := by
  refine beatOk_bad hi ?_
  unfold stepS; rw [h]; rfl
theorem beatOk_step {f : Fd} {n : Nat} {g : Nat → Int} {i : Nat} (hi : i < n) (h : ¬ sqG (g i) (g (nxt n i)) ≤ 1) : beatOk f n g = false := by
  refine beatOk_bad (nxt_lt (i := i) (show 0 < n by omega)) ?_
  cases q : stepS f n g (nxt n i) with
  | false => rfl
  | true =>
    have := (stepS_iff.1 q).2.2
    rw [prv_nxt hi] at this
    exact absurd this h
theorem beatOk_iff {f : Fd} {n : Nat} {g : Nat → Int} (h : beatOk f n g = true) : 1 ≤ n ∧ n ≤ 40 ∧ (∀ i, i < n → walkQ f (g i) = true) ∧ (∀ i, i < n → sqG (g i) (g (nxt n i)) ≤ 1) := by
  unfold beatOk at h
  rw [Bool.and_eq_true] at h
  have hn := inB_iff.1 h.1
  refine ⟨by omega, by omega, fun i hi => (stepS_iff.1 (allTo_iff.1 h.2 i hi)).1, fun i hi => ?_⟩
  have := (stepS_iff.1 (allTo_iff.1 h.2 _ (nxt_lt (i := i) (show 0 < n by omega)))).2.2
  rw [prv_nxt hi] at this
  exact this
theorem int_prv {n i : Nat} (hn : 1 ≤ n) : ((i : Int) + (n : Int) - 1) % (n : Int) = ((prv n i : Nat) : Int) := by
  unfold prv; rw [Int.natCast_emod, Int.natCast_sub (by omega), Int.natCast_add]; rfl
set_option maxRecDepth 100000 in
set_option maxHeartbeats 4000000 in
theorem l05Ok_any (f : Fd) (hf : f.Wf) (n : Nat) (hn : n ≤ 2 ^ 40) (g : Nat → Int) (hg : WfH n g) (b0 b c : Nat) (w : World) (B : Blk w b0 (fcells f) 31) (I : InH w b 0 n g) :
    Calls Tryd.prog 28 #[.pointer (some ⟨b0, 0, none⟩), .slice (some ⟨b, 0, none⟩) n c] w fun e w' => e = .returned (.bool (okF f && beatOk f n g)) ∧ w = w' := by
  have HB := Lib.hid B
  have HI := Lib.hid I
  have HG := Lib.hid hg
  clear B I hg
  cases hok : okF f with
  | false =>
    rw [Bool.false_and]
    go_enter Tryd.func28, Tryd.ntmps28
    go_wp2_with (go_at_call 44; refine (l01Ok_any f hf b0 _ HB.out).mono ?_; rintro e w' ⟨rfl, rfl⟩; rw [hok])
    go_ret
    exact ⟨rfl, rfl⟩
  | true =>
    rw [Bool.true_and]
    cases hl : inB n 1 40 with
    | false =>
      rw [beatOk_no hl]
      go_enter Tryd.func28, Tryd.ntmps28
      go_wp2_with (first
        | (go_at_call 44; refine (l01Ok_any f hf b0 _ HB.out).mono ?_; rintro e w' ⟨rfl, rfl⟩; rw [hok])
        | (go_at_call 19; refine (l00In_any _ _ _ _).mono ?_; rintro e w' ⟨rfl, rfl⟩; rw [hl]))
      go_ret
      exact ⟨rfl, rfl⟩
    | true =>
      have HL := Lib.hid hl
      obtain ⟨hn1, hn2⟩ : 1 ≤ n ∧ n ≤ 40 := by have := inB_iff.1 hl; omega
      go_enter Tryd.func28, Tryd.ntmps28
      go_wp2_with (first
        | (go_at_call 44; refine (l01Ok_any f hf b0 _ HB.out).mono ?_; rintro e w' ⟨rfl, rfl⟩; rw [hok])
        | (go_at_call 19; refine (l00In_any _ _ _ _).mono ?_; rintro e w' ⟨rfl, rfl⟩; rw [hl]))
      clear hl
      go_loop [5] (fun i => ∃ k : Nat, k ≤ n ∧ i = .int .i64 k ∧ Hid (∀ j, j < k → stepS f n g j = true)) (fun i => n - (intOf i).toNat)
      case atStart => exact ⟨0, by omega, rfl, Lib.hid (fun i hi => by omega)⟩
      case round =>
        obtain ⟨k, hk, rfl, hall⟩ := hrel
        by_cases hlt : k < n
        · have d0 := HI.out k hlt
          rw [Nat.zero_add] at d0
          obtain ⟨ga1, ga2⟩ := HG.out k hlt
          obtain ⟨x, hx⟩ : ∃ x, prv n k = x := ⟨_, rfl⟩
          have hxn : x < n := by rw [← hx]; exact prv_lt (by omega)
          have d1 := HI.out x hxn
          rw [Nat.zero_add] at d1
          obtain ⟨gb1, gb2⟩ := HG.out x hxn
          have HX := Lib.hid hx
          clear hx
          have hmod : ((k : Int) + (n : Int) - 1) % (n : Int) = (x : Int) := by rw [int_prv hn1, HX.out]
          cases hw : walkQ f (g k) with
          | false =>
            have hno : Hid (beatOk f n g = false) := Lib.hid (beatOk_walk hlt hw)
            go_wp2_with (go_at_call 45; refine (l05Walk_any f hf _ b0 _ HB.out).mono ?_; rintro e w' ⟨rfl, rfl⟩; rw [hw])
            go_ret
            exact ⟨by rw [hno.out]; rfl, rfl⟩
          | true =>
            cases hc : isCell f (g x) with
            | false =>
              have hno : Hid (beatOk f n g = false) := Lib.hid (beatOk_bad hlt (by unfold stepS; rw [HX.out, hc, Bool.and_false, Bool.false_and]))
              go_wp2_with (first
                | (go_at_call 45; refine (l05Walk_any f hf _ b0 _ HB.out).mono ?_; rintro e w' ⟨rfl, rfl⟩; rw [hw])
                | (go_at_call 18; refine (l01Is_any f _ b0 _ hf.W hf.H HB.out).mono ?_; rintro e w' ⟨rfl, rfl⟩; rw [hc]))
              go_ret
              exact ⟨by rw [hno.out]; rfl, rfl⟩
            | true =>
              obtain ⟨u, hu, eu⟩ := walkQ_lt hw
              obtain ⟨v, hv, ev⟩ := cell_nat hc
              obtain ⟨y, hy⟩ : ∃ y, sq (v : Int) (u : Int) = y := ⟨_, rfl⟩
              have HY := Lib.hid hy
              have hs : Hid (stepS f n g k = decide (y ≤ 1)) := Lib.hid (by unfold stepS; rw [HX.out, hw, hc, ev, eu, sqG_nat, HY.out]; rfl)
              clear hy
              rw [eu] at d0 hw ga1 ga2
              rw [ev] at d1 hc gb1 gb2
              clear eu ev
              by_cases hle : y ≤ 1
              · have hgt : decide (1 < y) = false := decide_eq_false (by omega)
                go_wp2_with (first
                  | (go_at_call 45; refine (l05Walk_any f hf _ b0 _ HB.out).mono ?_; rintro e w' ⟨rfl, rfl⟩; rw [hw])
                  | (go_at_call 18; refine (l01Is_any f _ b0 _ hf.W hf.H HB.out).mono ?_; rintro e w' ⟨rfl, rfl⟩; rw [hc])
                  | (go_at_call 46; refine (l01Square_any v u hv hu _).mono ?_; rintro e w' ⟨rfl, rfl⟩; rw [HY.out]))
                go_round
                case rel => exact ⟨k + 1, by omega, by go_num, Lib.hid (upto_succ hall.out (by rw [hs.out, decide_eq_true hle]))⟩
                case measure => simp [intOf]; omega
              · have hgt : decide (1 < y) = true := decide_eq_true (by omega)
                have hno : Hid (beatOk f n g = false) := Lib.hid (beatOk_bad hlt (by rw [hs.out, decide_eq_false hle]))
                go_wp2_with (first
                  | (go_at_call 45; refine (l05Walk_any f hf _ b0 _ HB.out).mono ?_; rintro e w' ⟨rfl, rfl⟩; rw [hw])
                  | (go_at_call 18; refine (l01Is_any f _ b0 _ hf.W hf.H HB.out).mono ?_; rintro e w' ⟨rfl, rfl⟩; rw [hc])
                  | (go_at_call 46; refine (l01Square_any v u hv hu _).mono ?_; rintro e w' ⟨rfl, rfl⟩; rw [HY.out]))
                go_ret
                exact ⟨by rw [hno.out]; rfl, rfl⟩
        · obtain rfl : k = n := by omega
          have hyes : Hid (beatOk f k g = true) := Lib.hid (by unfold beatOk; rw [HL.out, allTo_iff.2 hall.out]; rfl)
          go_wp2_with fail
          go_ret
          exact ⟨by rw [hyes.out]; rfl, rfl⟩
set_option maxRecDepth 100000 in
set_option maxHeartbeats 4000000 in
theorem fits_any (f : Fd) (hf : f.Wf) (hok : okF f = true) (n : Nat) (hn : n ≤ 2 ^ 40) (g : Nat → Int) (hg : WfH n g) (b c : Nat) (w : World) (I : InH w b 0 n g) :
    Calls Tryd.prog 48 #[.slice (some ⟨b, 0, none⟩) n c, .agg (fcells f)] w fun e w' => e = .returned (.bool (beatOk f n g)) ∧ Below w.heap.size w w' := by
  have HI := Lib.hid I
  have HG := Lib.hid hg
  clear I hg
  cases hl : inB n 1 40 with
  | false =>
    rw [beatOk_no hl]
    go_enter Tryd.func48, Tryd.ntmps48
    go_upto_region 1 with (fail)
    obtain ⟨W, hW, M⟩ := open1 w (fcells f) 31
    rw [hW]; clear hW
    go_wp2_with (first
      | (go_at_call 37; refine (length_any _ n c _).mono ?_; rintro e w' ⟨rfl, rfl⟩)
      | (go_at_call 62; refine (isLength_any _ _).mono ?_; rintro e w' ⟨rfl, rfl⟩; rw [hl]))
    go_ret
    exact ⟨rfl, M.below⟩
  | true =>
    have HL := Lib.hid hl
    obtain ⟨hn1, hn2⟩ : 1 ≤ n ∧ n ≤ 40 := by have := inB_iff.1 hl; omega
    go_enter Tryd.func48, Tryd.ntmps48
    go_upto_region 1 with (fail)
    obtain ⟨W, hW, M⟩ := open1 w (fcells f) 31
    rw [hW]; clear hW
    go_wp2_with (first
      | (go_at_call 37; refine (length_any _ n c _).mono ?_; rintro e w' ⟨rfl, rfl⟩)
      | (go_at_call 62; refine (isLength_any _ _).mono ?_; rintro e w' ⟨rfl, rfl⟩; rw [hl]))
    clear hl
    have M0 := Lib.hid M
    clear M
    go_loopw [12] (fun i wr => ∃ k : Nat, k ≤ n ∧ i = .int .i64 k ∧ Hid (Mem w wr [⟨w.heap.size, fcells f, 31⟩]) ∧ Hid (∀ j, j < k → walkQ f (g j) = true ∧ sqG (g j) (g (nxt n j)) ≤ 1)) (fun i _ => n - (intOf i).toNat)
    case atStart => exact ⟨0, by omega, rfl, M0, Lib.hid (fun i hi => by omega)⟩
    case round =>
    clear M0
    obtain ⟨k, hk, rfl, hM, hall⟩ := hrel
    by_cases hlt : k < n
    · obtain ⟨ga1, ga2⟩ := HG.out k hlt
      obtain ⟨x, hx⟩ : ∃ x, nxt n k = x := ⟨_, rfl⟩
      have hxn : x < n := by rw [← hx]; exact nxt_lt (by omega)
      obtain ⟨gb1, gb2⟩ := HG.out x hxn
      have HX : Hid ((k + 1) % n = x) := Lib.hid hx
      clear hx
      go_upto_region 6 with (fail)
      obtain ⟨wq, hwq⟩ : ∃ y, walkQ f (g k) = y := ⟨_, rfl⟩
      have HW := Lib.hid hwq
      clear hwq
      cases wq with
      | false =>
      refine wp_region_rel (DL [dV (.agg (fcells f)), dV (.slice (some ⟨b, 0, none⟩) n c), dV (.int .i64 k), dV (.int .i64 (g k)), dV (.bool false), dV (.bool true), dV (.bool true), dV undef, dV undef, dV undef, dV undef, dV undef, dV undef, dV undef, dV undef, dV undef, dV (.bool true)]) (fun w' => Mem w w' [⟨w.heap.size, fcells f, 31⟩]) (by kernel_rfl) (by kernel_rfl) grows_mem
        (stays_DL (fun d hd => by
          simp only [List.mem_cons, List.mem_nil_iff, or_false] at hd
          rcases hd with rfl | rfl | rfl | rfl | rfl | rfl | rfl | rfl | rfl | rfl | rfl | rfl | rfl | rfl | rfl | rfl | rfl <;> exact stay_V)) hM.out.drew ?_
      refine rel_load 31 _ rfl (w.heap.size) (0) rfl (fcells f) _ rfl rfl (fun w' hw' => (hw'.at 0 rfl).whole) Tryd.underlying31 rfl (by rw [fcells_size]; exact sizeFd) (fun _ => ?_)
      simp only [Act.put, List.setIfInBounds_toArray, List.set_cons_zero, List.set_cons_succ]
      refine rel_val _ rfl rfl (fun _ _ => rfl) (fun _ => ?_)
      simp only [Act.put, List.setIfInBounds_toArray, List.set_cons_zero, List.set_cons_succ]
      refine rel_val _ rfl rfl (fun _ _ => rfl) (fun _ => ?_)
      simp only [Act.put, List.setIfInBounds_toArray, List.set_cons_zero, List.set_cons_succ]
      refine rel_call (.int .i64 (g k)) 64 #[.slice (some ⟨b, 0, none⟩) n c, .int .i64 ((k : Int))] rfl rfl rfl rfl (enters_of Tryd.func64 (by kernel_rfl) rfl) (fun w' hw' => (at_any b n c hn1 hn2 g k (k) (Nat.mod_eq_of_lt hlt) (by omega) HG.out w' (HI.out.later hw'.below)).mono (fun e w2 h => ⟨h.1, by rw [← h.2]; exact Below.refl _ _⟩)) (fun _ => ?_)
      simp only [Act.put, List.setIfInBounds_toArray, List.set_cons_zero, List.set_cons_succ]
      refine rel_call (.bool false) 63 #[.agg (fcells f), .int .i64 (g k)] rfl rfl rfl rfl (enters_of Tryd.func63 (by kernel_rfl) rfl) (fun w' _ => (canWalk_any f hf hok (g k) ga1 ga2 w').mono (fun e w2 h => ⟨by rw [h.1, HW.out], h.2⟩)) (fun _ => ?_)
      simp only [Act.put, List.setIfInBounds_toArray, List.set_cons_zero, List.set_cons_succ]
      refine rel_val _ rfl rfl (fun _ _ => rfl) (fun _ => ?_)
      simp only [Act.put, List.setIfInBounds_toArray, List.set_cons_zero, List.set_cons_succ]
      refine rel_val _ rfl rfl (fun _ _ => rfl) (fun _ => ?_)
      simp only [Act.put, List.setIfInBounds_toArray, List.set_cons_zero, List.set_cons_succ]
      refine rel_skip rfl ?_
      simp only [Act.put, List.setIfInBounds_toArray, List.set_cons_zero, List.set_cons_succ]
      refine rel_skip rfl ?_
      simp only [Act.put, List.setIfInBounds_toArray, List.set_cons_zero, List.set_cons_succ]
      refine rel_skip rfl ?_
      simp only [Act.put, List.setIfInBounds_toArray, List.set_cons_zero, List.set_cons_succ]
      refine rel_skip rfl ?_
      simp only [Act.put, List.setIfInBounds_toArray, List.set_cons_zero, List.set_cons_succ]
      refine rel_skip rfl ?_
      simp only [Act.put, List.setIfInBounds_toArray, List.set_cons_zero, List.set_cons_succ]
      refine rel_skip rfl ?_
      simp only [Act.put, List.setIfInBounds_toArray, List.set_cons_zero, List.set_cons_succ]
      refine rel_skip rfl ?_
      simp only [Act.put, List.setIfInBounds_toArray, List.set_cons_zero, List.set_cons_succ]
      refine rel_skip rfl ?_
      simp only [Act.put, List.setIfInBounds_toArray, List.set_cons_zero, List.set_cons_succ]
      refine rel_skip rfl ?_
      simp only [Act.put, List.setIfInBounds_toArray, List.set_cons_zero, List.set_cons_succ]
      refine rel_val _ rfl rfl (fun _ _ => rfl) (fun _ => ?_)
      simp only [Act.put, List.setIfInBounds_toArray, List.set_cons_zero, List.set_cons_succ]
      refine rel_nil (fun W3 inv => ?_)
      have M3 := inv.cls
      have hno : Hid (beatOk f n g = false) := Lib.hid (beatOk_walk hlt HW.out)
      clear inv
      go_wp2_with fail
      go_ret
      exact ⟨by rw [hno.out]; rfl, M3.below⟩
      | true =>
      obtain ⟨q, hq⟩ : ∃ q, decide (sqG (g k) (g x) ≤ 1) = q := ⟨_, rfl⟩
      have HQ := Lib.hid hq
      clear hq
      have HA : IntKind.i64.wrap ((k : Int) + 1) = (k : Int) + 1 := IntWalk.i64_in _ (by omega)
      refine wp_region_rel (DL [dV (.agg (fcells f)), dV (.slice (some ⟨b, 0, none⟩) n c), dV (.int .i64 k), dV (.int .i64 (g k)), dV (.bool true), dV (.bool false), dV (.bool false), dV (.slice (some ⟨b, 0, none⟩) n c), dV (.int .i64 k), dV (.int .i64 (g k)), dV (.slice (some ⟨b, 0, none⟩) n c), dV (.int .i64 k), dV (.int .i64 ((k : Int) + 1)), dV (.int .i64 (g x)), dV (.bool q), dV (.bool (!q)), dV (.bool (!q))]) (fun w' => Mem w w' [⟨w.heap.size, fcells f, 31⟩]) (by kernel_rfl) (by kernel_rfl) grows_mem
        (stays_DL (fun d hd => by
          simp only [List.mem_cons, List.mem_nil_iff, or_false] at hd
          rcases hd with rfl | rfl | rfl | rfl | rfl | rfl | rfl | rfl | rfl | rfl | rfl | rfl | rfl | rfl | rfl | rfl | rfl <;> exact stay_V)) hM.out.drew ?_
      refine rel_load 31 _ rfl (w.heap.size) (0) rfl (fcells f) _ rfl rfl (fun w' hw' => (hw'.at 0 rfl).whole) Tryd.underlying31 rfl (by rw [fcells_size]; exact sizeFd) (fun _ => ?_)
      simp only [Act.put, List.setIfInBounds_toArray, List.set_cons_zero, List.set_cons_succ]
      refine rel_val _ rfl rfl (fun _ _ => rfl) (fun _ => ?_)
      simp only [Act.put, List.setIfInBounds_toArray, List.set_cons_zero, List.set_cons_succ]
      refine rel_val _ rfl rfl (fun _ _ => rfl) (fun _ => ?_)
      simp only [Act.put, List.setIfInBounds_toArray, List.set_cons_zero, List.set_cons_succ]
      refine rel_call (.int .i64 (g k)) 64 #[.slice (some ⟨b, 0, none⟩) n c, .int .i64 ((k : Int))] rfl rfl rfl rfl (enters_of Tryd.func64 (by kernel_rfl) rfl) (fun w' hw' => (at_any b n c hn1 hn2 g k (k) (Nat.mod_eq_of_lt hlt) (by omega) HG.out w' (HI.out.later hw'.below)).mono (fun e w2 h => ⟨h.1, by rw [← h.2]; exact Below.refl _ _⟩)) (fun _ => ?_)
      simp only [Act.put, List.setIfInBounds_toArray, List.set_cons_zero, List.set_cons_succ]
      refine rel_call (.bool true) 63 #[.agg (fcells f), .int .i64 (g k)] rfl rfl rfl rfl (enters_of Tryd.func63 (by kernel_rfl) rfl) (fun w' _ => (canWalk_any f hf hok (g k) ga1 ga2 w').mono (fun e w2 h => ⟨by rw [h.1, HW.out], h.2⟩)) (fun _ => ?_)
      simp only [Act.put, List.setIfInBounds_toArray, List.set_cons_zero, List.set_cons_succ]
      refine rel_val _ rfl rfl (fun _ _ => rfl) (fun _ => ?_)
      simp only [Act.put, List.setIfInBounds_toArray, List.set_cons_zero, List.set_cons_succ]
      refine rel_val _ rfl rfl (fun _ _ => rfl) (fun _ => ?_)
      simp only [Act.put, List.setIfInBounds_toArray, List.set_cons_zero, List.set_cons_succ]
      refine rel_val _ rfl rfl (fun _ _ => rfl) (fun _ => ?_)
      simp only [Act.put, List.setIfInBounds_toArray, List.set_cons_zero, List.set_cons_succ]
      refine rel_val _ rfl rfl (fun _ _ => rfl) (fun _ => ?_)
      simp only [Act.put, List.setIfInBounds_toArray, List.set_cons_zero, List.set_cons_succ]
      refine rel_call (.int .i64 (g k)) 64 #[.slice (some ⟨b, 0, none⟩) n c, .int .i64 ((k : Int))] rfl rfl rfl rfl (enters_of Tryd.func64 (by kernel_rfl) rfl) (fun w' hw' => (at_any b n c hn1 hn2 g k (k) (Nat.mod_eq_of_lt hlt) (by omega) HG.out w' (HI.out.later hw'.below)).mono (fun e w2 h => ⟨h.1, by rw [← h.2]; exact Below.refl _ _⟩)) (fun _ => ?_)
      simp only [Act.put, List.setIfInBounds_toArray, List.set_cons_zero, List.set_cons_succ]
      refine rel_val _ rfl rfl (fun _ _ => rfl) (fun _ => ?_)
      simp only [Act.put, List.setIfInBounds_toArray, List.set_cons_zero, List.set_cons_succ]
      refine rel_val _ rfl rfl (fun _ _ => rfl) (fun _ => ?_)
      simp only [Act.put, List.setIfInBounds_toArray, List.set_cons_zero, List.set_cons_succ]
      refine rel_val (.int .i64 ((k : Int) + 1)) rfl rfl (fun w' _ => by simp [execOp, Act.eval, go_sem, HA]) (fun _ => ?_)
      simp only [Act.put, List.setIfInBounds_toArray, List.set_cons_zero, List.set_cons_succ]
      refine rel_call (.int .i64 (g x)) 64 #[.slice (some ⟨b, 0, none⟩) n c, .int .i64 ((k : Int) + 1)] rfl rfl rfl rfl (enters_of Tryd.func64 (by kernel_rfl) rfl) (fun w' hw' => (at_next b n c hn1 hn2 g k (x) HX.out (by omega) HG.out w' (HI.out.later hw'.below)).mono (fun e w2 h => ⟨h.1, by rw [← h.2]; exact Below.refl _ _⟩)) (fun _ => ?_)
      simp only [Act.put, List.setIfInBounds_toArray, List.set_cons_zero, List.set_cons_succ]
      refine rel_call (.bool q) 65 #[.int .i64 (g k), .int .i64 (g x)] rfl rfl rfl rfl (enters_of Tryd.func65 (by kernel_rfl) rfl) (fun w' _ => (isStep_any (g k) (g x) ga1 ga2 gb1 gb2 w').mono (fun e w2 h => ⟨by rw [h.1, HQ.out], by rw [← h.2]; exact Below.refl _ _⟩)) (fun _ => ?_)
      simp only [Act.put, List.setIfInBounds_toArray, List.set_cons_zero, List.set_cons_succ]
      refine rel_val _ rfl rfl (fun _ _ => rfl) (fun _ => ?_)
      simp only [Act.put, List.setIfInBounds_toArray, List.set_cons_zero, List.set_cons_succ]
      refine rel_val _ rfl rfl (fun _ _ => rfl) (fun _ => ?_)
      simp only [Act.put, List.setIfInBounds_toArray, List.set_cons_zero, List.set_cons_succ]
      refine rel_nil (fun W3 inv => ?_)
      have M3 := Lib.hid inv.cls
      clear inv HA
      cases q with
      | true =>
        go_wp2_with fail
        go_roundw
        case rel => exact ⟨k + 1, by omega, by go_num, M3, Lib.hid (upto_succ hall.out ⟨HW.out, by rw [show nxt n k = x from HX.out]; exact of_decide_eq_true HQ.out⟩)⟩
        case measure => simp [intOf]; omega
      | false =>
        have hno : Hid (beatOk f n g = false) := Lib.hid (beatOk_step hlt (by rw [show nxt n k = x from HX.out]; exact of_decide_eq_false HQ.out))
        go_wp2_with fail
        go_ret
        exact ⟨by rw [hno.out]; rfl, M3.out.below⟩
    · obtain rfl : k = n := by omega
      have hyes : Hid (beatOk f k g = true) := Lib.hid (beatOk_all HL.out hall.out)
      go_wp2_with fail
      go_ret
      exact ⟨by rw [hyes.out]; rfl, hM.out.below⟩
end Go.Proofs.YtfchbdbfokpcdaaDoor
