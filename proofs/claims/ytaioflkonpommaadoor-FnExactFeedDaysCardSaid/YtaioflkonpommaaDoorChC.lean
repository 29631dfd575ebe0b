/-
  How meals are compared, and the least of several: the program's.
-/
import Derived.Test.YtaioflkonpommaaDoorMls
import Derived.Test.YtaioflkonpommaaDoorRelA
import Derived.Test.YtaioflkonpommaaDoorCoreD
namespace Go.Proofs.YtaioflkonpommaaDoor
open Go Go.RowKit
attribute [local go_sem] Oper.semAt_some

def cmp3 (x y : Int) : Int := if x < y then -1 else if y < x then 1 else 0
theorem isNaN_any (x : Int) (w : World) : Calls Tryd.prog 112 #[.int .i64 x] w fun e w' => e = .returned (.bool false) ∧ w = w' := by
  go_enter Tryd.func112, Tryd.ntmps112
  go_wp2
  go_ret
  exact ⟨by simp, rfl⟩
theorem compare_any (x y : Int) (w : World) : Calls Tryd.prog 107 #[.int .i64 x, .int .i64 y] w fun e w' => e = .returned (.int .i64 (cmp3 x y)) ∧ w = w' := by
  unfold cmp3
  by_cases h1 : x < y
  · rw [if_pos h1]
    go_enter Tryd.func107, Tryd.ntmps107
    go_wp2_with (go_at_call 112; refine (isNaN_any _ _).mono ?_; rintro e w1 ⟨rfl, rfl⟩)
    go_ret
    exact ⟨rfl, rfl⟩
  · rw [if_neg h1]
    by_cases h2 : y < x
    · rw [if_pos h2]
      go_enter Tryd.func107, Tryd.ntmps107
      go_wp2_with (go_at_call 112; refine (isNaN_any _ _).mono ?_; rintro e w1 ⟨rfl, rfl⟩)
      go_ret
      exact ⟨rfl, rfl⟩
    · rw [if_neg h2]
      go_enter Tryd.func107, Tryd.ntmps107
      go_wp2_with (go_at_call 112; refine (isNaN_any _ _).mono ?_; rintro e w1 ⟨rfl, rfl⟩)
      go_ret
      exact ⟨rfl, rfl⟩
set_option maxRecDepth 100000 in
set_option maxHeartbeats 2000000 in
theorem or_any (n : Nat) (hn : n ≤ 100) (g : Nat → Int) (r : Int) (h1 : ∀ k, k < n → (∀ j, j < k → g j = 0) → g k ≠ 0 → g k = r) (h2 : (∀ k, k < n → g k = 0) → r = 0) (b c : Nat) (w : World) (I : InI w b 0 n g) :
    Calls Tryd.prog 106 #[.slice (some ⟨b, 0, none⟩) n c] w fun e w' => e = .returned (.int .i64 r) ∧ w = w' := by
  have HI := Lib.hid I
  have H1 := Lib.hid h1
  have H2 := Lib.hid h2
  clear I h1 h2
  go_enter Tryd.func106, Tryd.ntmps106
  go_wp2_with fail
  go_loop [5, 8] (fun _ i => ∃ k : Nat, k ≤ n ∧ i = .int .i64 k ∧ Hid (∀ j, j < k → g j = 0)) (fun _ i => n - (intOf i).toNat)
  case atStart => exact ⟨0, by omega, rfl, Lib.hid (fun j hj => absurd hj (by omega))⟩
  case round =>
    obtain ⟨k, hk, rfl, hall⟩ := hrel
    by_cases hlt : k < n
    · have c0 := HI.out k hlt
      rw [Nat.zero_add] at c0
      have hr := Lib.hid (H1.out k hlt hall.out)
      obtain ⟨y, hy⟩ : ∃ y, g k = y := ⟨_, rfl⟩
      rw [hy] at c0 hr
      have HY := Lib.hid hy
      clear hy
      by_cases hz : y = 0
      · have hd : (y != 0) = false := by simp [hz]
        have HZ := Lib.hid hz
        clear hz
        go_wp2_with fail
        go_round
        case rel => exact ⟨k + 1, by omega, by go_num, Lib.hid (fun j hj => by
          by_cases e : j = k
          · subst e; rw [HY.out]; exact HZ.out
          · exact hall.out j (by omega))⟩
        case measure => simp [intOf]; omega
      · have hd : (y != 0) = true := by simp [hz]
        have HZ := Lib.hid (hr.out hz)
        clear hz
        go_wp2_with fail
        go_ret
        exact ⟨by rw [HZ.out]; rfl, rfl⟩
    · obtain rfl : k = n := by omega
      have HZ := Lib.hid (H2.out hall.out)
      go_wp2_with fail
      go_ret
      exact ⟨by rw [HZ.out]; rfl, rfl⟩
def mrow (p : Nat → Int) : Array Value := #[.int .i64 (p 0), .int .i64 (p 1), .int .i64 (p 2), .int .i64 (p 3)]
def or3 (x y z : Int) : Int := if x ≠ 0 then x else if y ≠ 0 then y else z
def or2 (x y : Int) : Int := if x ≠ 0 then x else y
def cvS (p q : Nat → Int) : Int := or3 (cmp3 (q 1) (p 1)) (cmp3 (p 2) (q 2)) (cmp3 (p 0) (q 0))
def cvN (p q : Nat → Int) : Int := or3 (cmp3 (p 2) (q 2)) (cmp3 (q 1) (p 1)) (cmp3 (p 0) (q 0))
def cvC (p q : Nat → Int) : Int := or2 (cmp3 (p 3) (q 3)) (cvS p q)
theorem or3_any (x y z : Int) (b c : Nat) (w : World) (t : TypeId) (B : Blk w b #[.int .i64 x, .int .i64 y, .int .i64 z] t) : Calls Tryd.prog 106 #[.slice (some ⟨b, 0, none⟩) 3 c] w fun e w' => e = .returned (.int .i64 (or3 x y z)) ∧ Below w.heap.size w w' := by
  refine (or_any 3 (by omega) (fun i => if i = 0 then x else if i = 1 then y else z) (or3 x y z) (fun k hk ha hne => ?_) (fun ha => ?_) b c w (fun i hi => ?_)).mono (fun e w' h => ⟨h.1, by rw [← h.2]; exact Below.refl _ _⟩)
  · rcases (show k = 0 ∨ k = 1 ∨ k = 2 by omega) with rfl | rfl | rfl
    · have h0 : x ≠ 0 := hne
      show x = or3 x y z
      unfold or3; rw [if_pos h0]
    · have h0 : x = 0 := ha 0 (by omega)
      have h1 : y ≠ 0 := hne
      show y = or3 x y z
      unfold or3; rw [if_neg (by simp [h0]), if_pos h1]
    · have h0 : x = 0 := ha 0 (by omega)
      have h1 : y = 0 := ha 1 (by omega)
      show z = or3 x y z
      unfold or3; rw [if_neg (by simp [h0]), if_neg (by simp [h1])]
  · have h0 : x = 0 := ha 0 (by omega)
    have h1 : y = 0 := ha 1 (by omega)
    have h2 : z = 0 := ha 2 (by omega)
    unfold or3
    rw [if_neg (by simp [h0]), if_neg (by simp [h1])]; exact h2
  · rw [Nat.zero_add]
    rcases (show i = 0 ∨ i = 1 ∨ i = 2 by omega) with rfl | rfl | rfl
    · exact B.cell rfl
    · exact B.cell rfl
    · exact B.cell rfl
theorem or2_any (x y : Int) (b c : Nat) (w : World) (t : TypeId) (B : Blk w b #[.int .i64 x, .int .i64 y] t) : Calls Tryd.prog 106 #[.slice (some ⟨b, 0, none⟩) 2 c] w fun e w' => e = .returned (.int .i64 (or2 x y)) ∧ Below w.heap.size w w' := by
  refine (or_any 2 (by omega) (fun i => if i = 0 then x else y) (or2 x y) (fun k hk ha hne => ?_) (fun ha => ?_) b c w (fun i hi => ?_)).mono (fun e w' h => ⟨h.1, by rw [← h.2]; exact Below.refl _ _⟩)
  · rcases (show k = 0 ∨ k = 1 by omega) with rfl | rfl
    · have h0 : x ≠ 0 := hne
      show x = or2 x y
      unfold or2; rw [if_pos h0]
    · have h0 : x = 0 := ha 0 (by omega)
      show y = or2 x y
      unfold or2; rw [if_neg (by simp [h0])]
  · have h0 : x = 0 := ha 0 (by omega)
    have h1 : y = 0 := ha 1 (by omega)
    unfold or2
    rw [if_neg (by simp [h0])]; exact h1
  · rw [Nat.zero_add]
    rcases (show i = 0 ∨ i = 1 by omega) with rfl | rfl
    · exact B.cell rfl
    · exact B.cell rfl

set_option maxRecDepth 100000 in
set_option maxHeartbeats 4000000 in
theorem cvSF_any (p q : Nat → Int) (w : World) : Calls Tryd.prog 92 #[.agg (mrow p), .agg (mrow q)] w fun e w' => e = .returned (.int .i64 (cvS p q)) ∧ Below w.heap.size w w' := by
  obtain ⟨r, hr⟩ : ∃ r, cvS p q = r := ⟨_, rfl⟩
  have HR := Lib.hid hr
  rw [hr]
  clear hr
  go_enter Tryd.func92, Tryd.ntmps92
  go_upto_region 1 with (fail)
  obtain ⟨W, hW, M⟩ := open2 w (mrow p) 120 (mrow q) 120
  rw [hW]; clear hW
  refine wp_region_rel (DL [dV (.pointer (some ⟨w.heap.size + 1, 1, none⟩)), dV (.int .i64 (q 1)), dV (.pointer (some ⟨w.heap.size, 1, none⟩)), dV (.int .i64 (p 1)), dV (.int .i64 (cmp3 (q 1) (p 1))), dV (.pointer (some ⟨w.heap.size, 2, none⟩)), dV (.int .i64 (p 2)), dV (.pointer (some ⟨w.heap.size + 1, 2, none⟩)), dV (.int .i64 (q 2)), dV (.int .i64 (cmp3 (p 2) (q 2))), dV (.pointer (some ⟨w.heap.size, 0, none⟩)), dV (.int .i64 (p 0)), dV (.pointer (some ⟨w.heap.size + 1, 0, none⟩)), dV (.int .i64 (q 0)), dV (.int .i64 (cmp3 (p 0) (q 0))), dP (fun v _ _ w9 => ∃ b, v = .slice (some ⟨b, 0, none⟩) 3 3 ∧ Blk w9 b #[.int .i64 (cmp3 (q 1) (p 1)), .int .i64 (cmp3 (p 2) (q 2)), .int .i64 (cmp3 (p 0) (q 0))] 3), dV (.int .i64 r), dV (.int .i64 r)]) (fun w' => Mem w w' [⟨w.heap.size, mrow p, 120⟩, ⟨w.heap.size + 1, mrow q, 120⟩]) (by kernel_rfl) (by kernel_rfl) grows_mem
    (stays_DL (fun d hd => by
      simp only [List.mem_cons, List.mem_nil_iff, or_false] at hd
      rcases hd with rfl | rfl | rfl | rfl | rfl | rfl | rfl | rfl | rfl | rfl | rfl | rfl | rfl | rfl | rfl | rfl | rfl | rfl <;> first | exact stay_V | exact stay_P)) M.drew ?_
  refine rel_val (.pointer (some ⟨w.heap.size + 1, 1, none⟩)) rfl rfl (fun _ _ => by simp [execOp, Act.eval, go_sem]) (fun _ => ?_)
  simp only [Act.put, List.setIfInBounds_toArray, List.set_cons_zero, List.set_cons_succ]
  refine rel_cell 2 _ rfl (w.heap.size + 1) (1) rfl (.int .i64 (q 1)) rfl rfl (fun w' c => load_i64M _ _ _ w' c) (fun w' hw' => (hw'.at 1 rfl).cell (i := 1) rfl) (fun _ => ?_)
  simp only [Act.put, List.setIfInBounds_toArray, List.set_cons_zero, List.set_cons_succ]
  refine rel_val (.pointer (some ⟨w.heap.size, 1, none⟩)) rfl rfl (fun _ _ => by simp [execOp, Act.eval, go_sem]) (fun _ => ?_)
  simp only [Act.put, List.setIfInBounds_toArray, List.set_cons_zero, List.set_cons_succ]
  refine rel_cell 2 _ rfl (w.heap.size) (1) rfl (.int .i64 (p 1)) rfl rfl (fun w' c => load_i64M _ _ _ w' c) (fun w' hw' => (hw'.at 0 rfl).cell (i := 1) rfl) (fun _ => ?_)
  simp only [Act.put, List.setIfInBounds_toArray, List.set_cons_zero, List.set_cons_succ]
  refine rel_call (.int .i64 (cmp3 (q 1) (p 1))) 107 #[.int .i64 (q 1), .int .i64 (p 1)] rfl rfl rfl rfl (enters_of Tryd.func107 (by kernel_rfl) rfl) (fun w' _ => (compare_any _ _ w').mono (fun e w2 h => ⟨h.1, by rw [← h.2]; exact Below.refl _ _⟩)) (fun _ => ?_)
  simp only [Act.put, List.setIfInBounds_toArray, List.set_cons_zero, List.set_cons_succ]
  refine rel_val (.pointer (some ⟨w.heap.size, 2, none⟩)) rfl rfl (fun _ _ => by simp [execOp, Act.eval, go_sem]) (fun _ => ?_)
  simp only [Act.put, List.setIfInBounds_toArray, List.set_cons_zero, List.set_cons_succ]
  refine rel_cell 2 _ rfl (w.heap.size) (2) rfl (.int .i64 (p 2)) rfl rfl (fun w' c => load_i64M _ _ _ w' c) (fun w' hw' => (hw'.at 0 rfl).cell (i := 2) rfl) (fun _ => ?_)
  simp only [Act.put, List.setIfInBounds_toArray, List.set_cons_zero, List.set_cons_succ]
  refine rel_val (.pointer (some ⟨w.heap.size + 1, 2, none⟩)) rfl rfl (fun _ _ => by simp [execOp, Act.eval, go_sem]) (fun _ => ?_)
  simp only [Act.put, List.setIfInBounds_toArray, List.set_cons_zero, List.set_cons_succ]
  refine rel_cell 2 _ rfl (w.heap.size + 1) (2) rfl (.int .i64 (q 2)) rfl rfl (fun w' c => load_i64M _ _ _ w' c) (fun w' hw' => (hw'.at 1 rfl).cell (i := 2) rfl) (fun _ => ?_)
  simp only [Act.put, List.setIfInBounds_toArray, List.set_cons_zero, List.set_cons_succ]
  refine rel_call (.int .i64 (cmp3 (p 2) (q 2))) 107 #[.int .i64 (p 2), .int .i64 (q 2)] rfl rfl rfl rfl (enters_of Tryd.func107 (by kernel_rfl) rfl) (fun w' _ => (compare_any _ _ w').mono (fun e w2 h => ⟨h.1, by rw [← h.2]; exact Below.refl _ _⟩)) (fun _ => ?_)
  simp only [Act.put, List.setIfInBounds_toArray, List.set_cons_zero, List.set_cons_succ]
  refine rel_val (.pointer (some ⟨w.heap.size, 0, none⟩)) rfl rfl (fun _ _ => by simp [execOp, Act.eval, go_sem]) (fun _ => ?_)
  simp only [Act.put, List.setIfInBounds_toArray, List.set_cons_zero, List.set_cons_succ]
  refine rel_cell 2 _ rfl (w.heap.size) (0) rfl (.int .i64 (p 0)) rfl rfl (fun w' c => load_i64M _ _ _ w' c) (fun w' hw' => (hw'.at 0 rfl).cell (i := 0) rfl) (fun _ => ?_)
  simp only [Act.put, List.setIfInBounds_toArray, List.set_cons_zero, List.set_cons_succ]
  refine rel_val (.pointer (some ⟨w.heap.size + 1, 0, none⟩)) rfl rfl (fun _ _ => by simp [execOp, Act.eval, go_sem]) (fun _ => ?_)
  simp only [Act.put, List.setIfInBounds_toArray, List.set_cons_zero, List.set_cons_succ]
  refine rel_cell 2 _ rfl (w.heap.size + 1) (0) rfl (.int .i64 (q 0)) rfl rfl (fun w' c => load_i64M _ _ _ w' c) (fun w' hw' => (hw'.at 1 rfl).cell (i := 0) rfl) (fun _ => ?_)
  simp only [Act.put, List.setIfInBounds_toArray, List.set_cons_zero, List.set_cons_succ]
  refine rel_call (.int .i64 (cmp3 (p 0) (q 0))) 107 #[.int .i64 (p 0), .int .i64 (q 0)] rfl rfl rfl rfl (enters_of Tryd.func107 (by kernel_rfl) rfl) (fun w' _ => (compare_any _ _ w').mono (fun e w2 h => ⟨h.1, by rw [← h.2]; exact Below.refl _ _⟩)) (fun _ => ?_)
  simp only [Act.put, List.setIfInBounds_toArray, List.set_cons_zero, List.set_cons_succ]
  refine rel_runP _ rfl rfl (fun w9 _ => ⟨.slice (some ⟨w9.heap.size, 0, none⟩) 3 3, w9.alloc (.cells #[.int .i64 (cmp3 (q 1) (p 1)), .int .i64 (cmp3 (p 2) (q 2)), .int .i64 (cmp3 (p 0) (q 0))] 3), by simp [execOp, Act.eval, go_sem], (Below.refl _ _).alloc (Nat.le_refl _) _, fun w8 hb8 => ⟨w9.heap.size, rfl, (Blk.new w9 #[.int .i64 (cmp3 (q 1) (p 1)), .int .i64 (cmp3 (p 2) (q 2)), .int .i64 (cmp3 (p 0) (q 0))] 3).later hb8⟩⟩) (fun v lo hi _ hv => ?_)
  obtain ⟨_, _, b2, rfl, _⟩ := hv
  simp only [Act.put, List.setIfInBounds_toArray, List.set_cons_zero, List.set_cons_succ]
  refine rel_callK 15 (.int .i64 r) 106 #[.slice (some ⟨b2, 0, none⟩) 3 3] rfl rfl rfl rfl (enters_of Tryd.func106 (by kernel_rfl) rfl) rfl rfl rfl rfl (fun w' hw' hx => by
    obtain ⟨b', e, B⟩ := hx.1
    cases e
    have h := or3_any (cmp3 (q 1) (p 1)) (cmp3 (p 2) (q 2)) (cmp3 (p 0) (q 0)) b2 3 w' _ B
    exact h.mono (fun e w2 h2 => ⟨by rw [h2.1, ← HR.out]; rfl, h2.2⟩)) (fun _ => ?_)
  simp only [Act.put, List.setIfInBounds_toArray, List.set_cons_zero, List.set_cons_succ]
  refine rel_val _ rfl rfl (fun _ _ => rfl) (fun _ => ?_)
  simp only [Act.put, List.setIfInBounds_toArray, List.set_cons_zero, List.set_cons_succ]
  refine rel_nil (fun W6 inv => ?_)
  have M6 := inv.cls
  clear inv
  go_wp2_with fail
  go_ret
  exact ⟨rfl, M6.below⟩
set_option maxRecDepth 100000 in
set_option maxHeartbeats 4000000 in
theorem cvNF_any (p q : Nat → Int) (w : World) : Calls Tryd.prog 93 #[.agg (mrow p), .agg (mrow q)] w fun e w' => e = .returned (.int .i64 (cvN p q)) ∧ Below w.heap.size w w' := by
  obtain ⟨r, hr⟩ : ∃ r, cvN p q = r := ⟨_, rfl⟩
  have HR := Lib.hid hr
  rw [hr]
  clear hr
  go_enter Tryd.func93, Tryd.ntmps93
  go_upto_region 1 with (fail)
  obtain ⟨W, hW, M⟩ := open2 w (mrow p) 120 (mrow q) 120
  rw [hW]; clear hW
  refine wp_region_rel (DL [dV (.pointer (some ⟨w.heap.size, 2, none⟩)), dV (.int .i64 (p 2)), dV (.pointer (some ⟨w.heap.size + 1, 2, none⟩)), dV (.int .i64 (q 2)), dV (.int .i64 (cmp3 (p 2) (q 2))), dV (.pointer (some ⟨w.heap.size + 1, 1, none⟩)), dV (.int .i64 (q 1)), dV (.pointer (some ⟨w.heap.size, 1, none⟩)), dV (.int .i64 (p 1)), dV (.int .i64 (cmp3 (q 1) (p 1))), dV (.pointer (some ⟨w.heap.size, 0, none⟩)), dV (.int .i64 (p 0)), dV (.pointer (some ⟨w.heap.size + 1, 0, none⟩)), dV (.int .i64 (q 0)), dV (.int .i64 (cmp3 (p 0) (q 0))), dP (fun v _ _ w9 => ∃ b, v = .slice (some ⟨b, 0, none⟩) 3 3 ∧ Blk w9 b #[.int .i64 (cmp3 (p 2) (q 2)), .int .i64 (cmp3 (q 1) (p 1)), .int .i64 (cmp3 (p 0) (q 0))] 3), dV (.int .i64 r), dV (.int .i64 r)]) (fun w' => Mem w w' [⟨w.heap.size, mrow p, 120⟩, ⟨w.heap.size + 1, mrow q, 120⟩]) (by kernel_rfl) (by kernel_rfl) grows_mem
    (stays_DL (fun d hd => by
      simp only [List.mem_cons, List.mem_nil_iff, or_false] at hd
      rcases hd with rfl | rfl | rfl | rfl | rfl | rfl | rfl | rfl | rfl | rfl | rfl | rfl | rfl | rfl | rfl | rfl | rfl | rfl <;> first | exact stay_V | exact stay_P)) M.drew ?_
  refine rel_val (.pointer (some ⟨w.heap.size, 2, none⟩)) rfl rfl (fun _ _ => by simp [execOp, Act.eval, go_sem]) (fun _ => ?_)
  simp only [Act.put, List.setIfInBounds_toArray, List.set_cons_zero, List.set_cons_succ]
  refine rel_cell 2 _ rfl (w.heap.size) (2) rfl (.int .i64 (p 2)) rfl rfl (fun w' c => load_i64M _ _ _ w' c) (fun w' hw' => (hw'.at 0 rfl).cell (i := 2) rfl) (fun _ => ?_)
  simp only [Act.put, List.setIfInBounds_toArray, List.set_cons_zero, List.set_cons_succ]
  refine rel_val (.pointer (some ⟨w.heap.size + 1, 2, none⟩)) rfl rfl (fun _ _ => by simp [execOp, Act.eval, go_sem]) (fun _ => ?_)
  simp only [Act.put, List.setIfInBounds_toArray, List.set_cons_zero, List.set_cons_succ]
  refine rel_cell 2 _ rfl (w.heap.size + 1) (2) rfl (.int .i64 (q 2)) rfl rfl (fun w' c => load_i64M _ _ _ w' c) (fun w' hw' => (hw'.at 1 rfl).cell (i := 2) rfl) (fun _ => ?_)
  simp only [Act.put, List.setIfInBounds_toArray, List.set_cons_zero, List.set_cons_succ]
  refine rel_call (.int .i64 (cmp3 (p 2) (q 2))) 107 #[.int .i64 (p 2), .int .i64 (q 2)] rfl rfl rfl rfl (enters_of Tryd.func107 (by kernel_rfl) rfl) (fun w' _ => (compare_any _ _ w').mono (fun e w2 h => ⟨h.1, by rw [← h.2]; exact Below.refl _ _⟩)) (fun _ => ?_)
  simp only [Act.put, List.setIfInBounds_toArray, List.set_cons_zero, List.set_cons_succ]
  refine rel_val (.pointer (some ⟨w.heap.size + 1, 1, none⟩)) rfl rfl (fun _ _ => by simp [execOp, Act.eval, go_sem]) (fun _ => ?_)
  simp only [Act.put, List.setIfInBounds_toArray, List.set_cons_zero, List.set_cons_succ]
  refine rel_cell 2 _ rfl (w.heap.size + 1) (1) rfl (.int .i64 (q 1)) rfl rfl (fun w' c => load_i64M _ _ _ w' c) (fun w' hw' => (hw'.at 1 rfl).cell (i := 1) rfl) (fun _ => ?_)
  simp only [Act.put, List.setIfInBounds_toArray, List.set_cons_zero, List.set_cons_succ]
  refine rel_val (.pointer (some ⟨w.heap.size, 1, none⟩)) rfl rfl (fun _ _ => by simp [execOp, Act.eval, go_sem]) (fun _ => ?_)
  simp only [Act.put, List.setIfInBounds_toArray, List.set_cons_zero, List.set_cons_succ]
  refine rel_cell 2 _ rfl (w.heap.size) (1) rfl (.int .i64 (p 1)) rfl rfl (fun w' c => load_i64M _ _ _ w' c) (fun w' hw' => (hw'.at 0 rfl).cell (i := 1) rfl) (fun _ => ?_)
  simp only [Act.put, List.setIfInBounds_toArray, List.set_cons_zero, List.set_cons_succ]
  refine rel_call (.int .i64 (cmp3 (q 1) (p 1))) 107 #[.int .i64 (q 1), .int .i64 (p 1)] rfl rfl rfl rfl (enters_of Tryd.func107 (by kernel_rfl) rfl) (fun w' _ => (compare_any _ _ w').mono (fun e w2 h => ⟨h.1, by rw [← h.2]; exact Below.refl _ _⟩)) (fun _ => ?_)
  simp only [Act.put, List.setIfInBounds_toArray, List.set_cons_zero, List.set_cons_succ]
  refine rel_val (.pointer (some ⟨w.heap.size, 0, none⟩)) rfl rfl (fun _ _ => by simp [execOp, Act.eval, go_sem]) (fun _ => ?_)
  simp only [Act.put, List.setIfInBounds_toArray, List.set_cons_zero, List.set_cons_succ]
  refine rel_cell 2 _ rfl (w.heap.size) (0) rfl (.int .i64 (p 0)) rfl rfl (fun w' c => load_i64M _ _ _ w' c) (fun w' hw' => (hw'.at 0 rfl).cell (i := 0) rfl) (fun _ => ?_)
  simp only [Act.put, List.setIfInBounds_toArray, List.set_cons_zero, List.set_cons_succ]
  refine rel_val (.pointer (some ⟨w.heap.size + 1, 0, none⟩)) rfl rfl (fun _ _ => by simp [execOp, Act.eval, go_sem]) (fun _ => ?_)
  simp only [Act.put, List.setIfInBounds_toArray, List.set_cons_zero, List.set_cons_succ]
  refine rel_cell 2 _ rfl (w.heap.size + 1) (0) rfl (.int .i64 (q 0)) rfl rfl (fun w' c => load_i64M _ _ _ w' c) (fun w' hw' => (hw'.at 1 rfl).cell (i := 0) rfl) (fun _ => ?_)
  simp only [Act.put, List.setIfInBounds_toArray, List.set_cons_zero, List.set_cons_succ]
  refine rel_call (.int .i64 (cmp3 (p 0) (q 0))) 107 #[.int .i64 (p 0), .int .i64 (q 0)] rfl rfl rfl rfl (enters_of Tryd.func107 (by kernel_rfl) rfl) (fun w' _ => (compare_any _ _ w').mono (fun e w2 h => ⟨h.1, by rw [← h.2]; exact Below.refl _ _⟩)) (fun _ => ?_)
  simp only [Act.put, List.setIfInBounds_toArray, List.set_cons_zero, List.set_cons_succ]
  refine rel_runP _ rfl rfl (fun w9 _ => ⟨.slice (some ⟨w9.heap.size, 0, none⟩) 3 3, w9.alloc (.cells #[.int .i64 (cmp3 (p 2) (q 2)), .int .i64 (cmp3 (q 1) (p 1)), .int .i64 (cmp3 (p 0) (q 0))] 3), by simp [execOp, Act.eval, go_sem], (Below.refl _ _).alloc (Nat.le_refl _) _, fun w8 hb8 => ⟨w9.heap.size, rfl, (Blk.new w9 #[.int .i64 (cmp3 (p 2) (q 2)), .int .i64 (cmp3 (q 1) (p 1)), .int .i64 (cmp3 (p 0) (q 0))] 3).later hb8⟩⟩) (fun v lo hi _ hv => ?_)
  obtain ⟨_, _, b2, rfl, _⟩ := hv
  simp only [Act.put, List.setIfInBounds_toArray, List.set_cons_zero, List.set_cons_succ]
  refine rel_callK 15 (.int .i64 r) 106 #[.slice (some ⟨b2, 0, none⟩) 3 3] rfl rfl rfl rfl (enters_of Tryd.func106 (by kernel_rfl) rfl) rfl rfl rfl rfl (fun w' hw' hx => by
    obtain ⟨b', e, B⟩ := hx.1
    cases e
    have h := or3_any (cmp3 (p 2) (q 2)) (cmp3 (q 1) (p 1)) (cmp3 (p 0) (q 0)) b2 3 w' _ B
    exact h.mono (fun e w2 h2 => ⟨by rw [h2.1, ← HR.out]; rfl, h2.2⟩)) (fun _ => ?_)
  simp only [Act.put, List.setIfInBounds_toArray, List.set_cons_zero, List.set_cons_succ]
  refine rel_val _ rfl rfl (fun _ _ => rfl) (fun _ => ?_)
  simp only [Act.put, List.setIfInBounds_toArray, List.set_cons_zero, List.set_cons_succ]
  refine rel_nil (fun W6 inv => ?_)
  have M6 := inv.cls
  clear inv
  go_wp2_with fail
  go_ret
  exact ⟨rfl, M6.below⟩
set_option maxRecDepth 100000 in
set_option maxHeartbeats 4000000 in
theorem cvCF_any (p q : Nat → Int) (w : World) : Calls Tryd.prog 94 #[.agg (mrow p), .agg (mrow q)] w fun e w' => e = .returned (.int .i64 (cvC p q)) ∧ Below w.heap.size w w' := by
  obtain ⟨r, hr⟩ : ∃ r, cvC p q = r := ⟨_, rfl⟩
  have HR := Lib.hid hr
  rw [hr]
  clear hr
  go_enter Tryd.func94, Tryd.ntmps94
  go_upto_region 1 with (fail)
  obtain ⟨W, hW, M⟩ := open2 w (mrow p) 120 (mrow q) 120
  rw [hW]; clear hW
  refine wp_region_rel (DL [dV (.pointer (some ⟨w.heap.size, 3, none⟩)), dV (.int .i64 (p 3)), dV (.pointer (some ⟨w.heap.size + 1, 3, none⟩)), dV (.int .i64 (q 3)), dV (.int .i64 (cmp3 (p 3) (q 3))), dV (.agg (mrow p)), dV (.agg (mrow q)), dV (.int .i64 (cvS p q)), dP (fun v _ _ w9 => ∃ b, v = .slice (some ⟨b, 0, none⟩) 2 2 ∧ Blk w9 b #[.int .i64 (cmp3 (p 3) (q 3)), .int .i64 (cvS p q)] 3), dV (.int .i64 r), dV (.int .i64 r)]) (fun w' => Mem w w' [⟨w.heap.size, mrow p, 120⟩, ⟨w.heap.size + 1, mrow q, 120⟩]) (by kernel_rfl) (by kernel_rfl) grows_mem
    (stays_DL (fun d hd => by
      simp only [List.mem_cons, List.mem_nil_iff, or_false] at hd
      rcases hd with rfl | rfl | rfl | rfl | rfl | rfl | rfl | rfl | rfl | rfl | rfl <;> first | exact stay_V | exact stay_P)) M.drew ?_
  refine rel_val (.pointer (some ⟨w.heap.size, 3, none⟩)) rfl rfl (fun _ _ => by simp [execOp, Act.eval, go_sem]) (fun _ => ?_)
  simp only [Act.put, List.setIfInBounds_toArray, List.set_cons_zero, List.set_cons_succ]
  refine rel_cell 2 _ rfl (w.heap.size) (3) rfl (.int .i64 (p 3)) rfl rfl (fun w' c => load_i64M _ _ _ w' c) (fun w' hw' => (hw'.at 0 rfl).cell (i := 3) rfl) (fun _ => ?_)
  simp only [Act.put, List.setIfInBounds_toArray, List.set_cons_zero, List.set_cons_succ]
  refine rel_val (.pointer (some ⟨w.heap.size + 1, 3, none⟩)) rfl rfl (fun _ _ => by simp [execOp, Act.eval, go_sem]) (fun _ => ?_)
  simp only [Act.put, List.setIfInBounds_toArray, List.set_cons_zero, List.set_cons_succ]
  refine rel_cell 2 _ rfl (w.heap.size + 1) (3) rfl (.int .i64 (q 3)) rfl rfl (fun w' c => load_i64M _ _ _ w' c) (fun w' hw' => (hw'.at 1 rfl).cell (i := 3) rfl) (fun _ => ?_)
  simp only [Act.put, List.setIfInBounds_toArray, List.set_cons_zero, List.set_cons_succ]
  refine rel_call (.int .i64 (cmp3 (p 3) (q 3))) 107 #[.int .i64 (p 3), .int .i64 (q 3)] rfl rfl rfl rfl (enters_of Tryd.func107 (by kernel_rfl) rfl) (fun w' _ => (compare_any _ _ w').mono (fun e w2 h => ⟨h.1, by rw [← h.2]; exact Below.refl _ _⟩)) (fun _ => ?_)
  simp only [Act.put, List.setIfInBounds_toArray, List.set_cons_zero, List.set_cons_succ]
  refine rel_load 120 _ rfl (w.heap.size) 0 rfl (mrow p) _ rfl rfl (fun w' hw' => (hw'.at 0 rfl).whole) Tryd.underlying120 rfl sizeMl (fun _ => ?_)
  simp only [Act.put, List.setIfInBounds_toArray, List.set_cons_zero, List.set_cons_succ]
  refine rel_load 120 _ rfl (w.heap.size + 1) 0 rfl (mrow q) _ rfl rfl (fun w' hw' => (hw'.at 1 rfl).whole) Tryd.underlying120 rfl sizeMl (fun _ => ?_)
  simp only [Act.put, List.setIfInBounds_toArray, List.set_cons_zero, List.set_cons_succ]
  refine rel_call (.int .i64 (cvS p q)) 92 #[.agg (mrow p), .agg (mrow q)] rfl rfl rfl rfl (enters_of Tryd.func92 (by kernel_rfl) rfl) (fun w' _ => cvSF_any p q w') (fun _ => ?_)
  simp only [Act.put, List.setIfInBounds_toArray, List.set_cons_zero, List.set_cons_succ]
  refine rel_runP _ rfl rfl (fun w9 _ => ⟨.slice (some ⟨w9.heap.size, 0, none⟩) 2 2, w9.alloc (.cells #[.int .i64 (cmp3 (p 3) (q 3)), .int .i64 (cvS p q)] 3), by simp [execOp, Act.eval, go_sem], (Below.refl _ _).alloc (Nat.le_refl _) _, fun w8 hb8 => ⟨w9.heap.size, rfl, (Blk.new w9 #[.int .i64 (cmp3 (p 3) (q 3)), .int .i64 (cvS p q)] 3).later hb8⟩⟩) (fun v lo hi _ hv => ?_)
  obtain ⟨_, _, b2, rfl, _⟩ := hv
  simp only [Act.put, List.setIfInBounds_toArray, List.set_cons_zero, List.set_cons_succ]
  refine rel_callK 8 (.int .i64 r) 106 #[.slice (some ⟨b2, 0, none⟩) 2 2] rfl rfl rfl rfl (enters_of Tryd.func106 (by kernel_rfl) rfl) rfl rfl rfl rfl (fun w' hw' hx => by
    obtain ⟨b', e, B⟩ := hx.1
    cases e
    have h := or2_any (cmp3 (p 3) (q 3)) (cvS p q) b2 2 w' _ B
    exact h.mono (fun e w2 h2 => ⟨by rw [h2.1, ← HR.out]; rfl, h2.2⟩)) (fun _ => ?_)
  simp only [Act.put, List.setIfInBounds_toArray, List.set_cons_zero, List.set_cons_succ]
  refine rel_val _ rfl rfl (fun _ _ => rfl) (fun _ => ?_)
  simp only [Act.put, List.setIfInBounds_toArray, List.set_cons_zero, List.set_cons_succ]
  refine rel_nil (fun W6 inv => ?_)
  have M6 := inv.cls
  clear inv
  go_wp2_with fail
  go_ret
  exact ⟨rfl, M6.below⟩
/-- The least of the first rows: the first of them. -/
def bstC (cv : (Nat → Int) → (Nat → Int) → Int) (F : Nat → Nat → Int) : Nat → Nat → Int
  | 0 => F 0
  | k + 1 => if cv (F (k + 1)) (bstC cv F k) < 0 then F (k + 1) else bstC cv F k
theorem bstC_yes {cv : (Nat → Int) → (Nat → Int) → Int} {F : Nat → Nat → Int} {k : Nat} (h : cv (F (k + 1)) (bstC cv F k) < 0) : bstC cv F (k + 1) = F (k + 1) := by rw [bstC, if_pos h]
theorem bstC_no {cv : (Nat → Int) → (Nat → Int) → Int} {F : Nat → Nat → Int} {k : Nat} (h : ¬ cv (F (k + 1)) (bstC cv F k) < 0) : bstC cv F (k + 1) = bstC cv F k := by rw [bstC, if_neg h]
theorem so_at {t : TypeId} {lo : Nat} {w : World} {b n : Nat} {F : Nat → Nat → Int} (h : SO ksMeal t lo w (some ⟨b, 0, none⟩) n F) {k : Nat} (hk : k < n) : w.rangeAt b (k * 4) (mrow (F k)).toList := by
  rcases h with h0 | ⟨b', cs, hp, hl, _, B, hc⟩
  · omega
  · cases hp
    refine fun j v hj => ?_
    have hj4 : j < 4 := by
      have := (List.getElem?_eq_some_iff.1 hj).1
      simpa [mrow] using this
    have h1 : w.cell? ⟨b, k * 4 + j, none⟩ = some (sget ksMeal F k j) := B.cell (hc k hk j hj4)
    rw [h1]
    rcases (show j = 0 ∨ j = 1 ∨ j = 2 ∨ j = 3 by omega) with rfl | rfl | rfl | rfl <;> exact hj
theorem range_later {w w' : World} {b o : Nat} {l : List Value} (h : w.rangeAt b o l) (hb : Below w.heap.size w w') : w'.rangeAt b o l := fun j v hj => cell_later (h j v hj) hb
set_option maxRecDepth 100000 in
set_option maxHeartbeats 8000000 in
theorem minFunc_any (n : Nat) (hn1 : 1 ≤ n) (hn : n ≤ 100) (F : Nat → Nat → Int) (cv : (Nat → Int) → (Nat → Int) → Int) (fc : FuncId) (hcmp : ∀ p q w, Calls Tryd.prog fc #[.agg (mrow p), .agg (mrow q)] w fun e w' => e = .returned (.int .i64 (cv p q)) ∧ Below w.heap.size w w')
    (hent : ∀ (args : Array Value) (w : World), (callFunc fc args).run Tryd.prog w = .ok (.enter fc args) w) (b c : Nat) (t : TypeId) (lo : Nat) (w : World) (H : SO ksMeal t lo w (some ⟨b, 0, none⟩) n F) :
    Calls Tryd.prog 75 #[.slice (some ⟨b, 0, none⟩) n c, .func (.func fc) #[] #[]] w fun e w' => e = .returned (.agg (mrow (bstC cv F (n - 1)))) ∧ Below w.heap.size w w' := by
  have HS := Lib.hid H
  have HC := Lib.hid hcmp
  have HE := Lib.hid hent
  clear H hcmp hent
  have hd1 : decide ((n : Int) < 1) = false := decide_eq_false (by omega)
  go_enter Tryd.func75, Tryd.ntmps75
  go_upto_region 3 with (fail)
  all_goals first | (exfalso; omega) | skip
  have M0 : Mem w (w.alloc (.cells #[.int .i64 0, .int .i64 0, .int .i64 0, .int .i64 0] 120)) [⟨w.heap.size, #[.int .i64 0, .int .i64 0, .int .i64 0, .int .i64 0], 120⟩] := (Mem.nil w).alloc #[.int .i64 0, .int .i64 0, .int .i64 0, .int .i64 0] 120
  obtain ⟨W, hW⟩ : ∃ W, w.alloc (.cells #[.int .i64 0, .int .i64 0, .int .i64 0, .int .i64 0] 120) = W := ⟨_, rfl⟩
  rw [hW] at M0 ⊢
  clear hW
  have HR0 := so_at (HS.out.later M0.below) (show 0 < n by omega)
  rw [Nat.zero_mul] at HR0
  go_upto_region 4 with (first
    | (refine wpList_load_part rfl 120 _ rfl b 0 rfl (mrow (F 0)) _ HR0 Tryd.underlying120 rfl sizeMl ?_)
    | (refine wpList_store_row rfl 120 _ _ rfl W.heap.size (mrow (F 0)) rfl rfl 120 _ ((M0.alloc #[.int .i64 0, .int .i64 0, .int .i64 0, .int .i64 0] 120).at 1 rfl) sizeMl rfl (by simp [mrow, Value.oneCell']) ?_))
  have M1 := (M0.alloc #[.int .i64 0, .int .i64 0, .int .i64 0, .int .i64 0] 120).row 1 rfl (mrow (F 0))
  obtain ⟨mb, hmb⟩ : ∃ mb, mb = W.heap.size := ⟨_, rfl⟩
  rw [← hmb] at M1 ⊢
  generalize World.setRow _ _ _ = W1 at M1 ⊢
  have M2 : Mem w W1 [⟨w.heap.size, #[.int .i64 0, .int .i64 0, .int .i64 0, .int .i64 0], 120⟩, ⟨mb, mrow (bstC cv F (1 - 1)), 120⟩] := M1
  have HM := Lib.hid M2
  clear hmb M1 M2 M0 HR0
  go_wp2_with fail
  go_loopw [6] (fun i wr => ∃ k : Nat, 1 ≤ k ∧ k ≤ n ∧ i = .int .i64 k ∧ Hid (Mem w wr [⟨w.heap.size, #[.int .i64 0, .int .i64 0, .int .i64 0, .int .i64 0], 120⟩, ⟨mb, mrow (bstC cv F (k - 1)), 120⟩])) (fun i _ => n - (intOf i).toNat)
  case atStart => exact ⟨1, by omega, by omega, rfl, HM⟩
  case round =>
    clear HM
    obtain ⟨k, hk1, hk, rfl, hM⟩ := hrel
    by_cases hlt : k < n
    · have HRG := Lib.hid (so_at (HS.out.later hM.out.below) hlt)
      obtain ⟨k0, rfl⟩ : ∃ k0, k = k0 + 1 := ⟨k - 1, by omega⟩
      have hy := @bstC_yes cv F k0
      have hnn := @bstC_no cv F k0
      rw [Nat.add_sub_cancel] at hM
      obtain ⟨q, hq⟩ : ∃ q, bstC cv F k0 = q := ⟨_, rfl⟩
      rw [hq] at hM hy hnn
      obtain ⟨kk, hkk⟩ : ∃ kk, k0 + 1 = kk := ⟨_, rfl⟩
      rw [hkk] at HRG hy hnn hlt hk ⊢
      obtain ⟨r, hr⟩ : ∃ r, F kk = r := ⟨_, rfl⟩
      rw [hr] at HRG hy hnn
      have HCR := Lib.hid (fun w => HC.out r q w)
      obtain ⟨v, hv⟩ : ∃ v, cv r q = v := ⟨_, rfl⟩
      rw [hv] at HCR hy hnn
      have HY := Lib.hid hy
      have HNN := Lib.hid hnn
      have HKK := Lib.hid hkk
      clear hq hr hv hy hnn hkk
      go_upto_region 7 with (fail)

      refine wp_region_rel (DL [dV (.func (.func fc) #[] #[]), dV (.slice (some ⟨b, 0, none⟩) n c), dV (.int .i64 (kk : Int)), dV (.pointer (some ⟨b, 0 + kk * 4, none⟩)), dV (.agg (mrow r)), dV (.agg (mrow q)), dV (.int .i64 v), dV (.bool (decide (v < 0)))]) (fun w' => (Mem w w' [⟨w.heap.size, #[.int .i64 0, .int .i64 0, .int .i64 0, .int .i64 0], 120⟩, ⟨mb, mrow q, 120⟩]) ∧ Below wr.heap.size wr w') (by kernel_rfl) (by kernel_rfl) grows_memB
        (stays_DL (fun d hd => by
          simp only [List.mem_cons, List.mem_nil_iff, or_false] at hd
          rcases hd with rfl | rfl | rfl | rfl | rfl | rfl | rfl | rfl <;> exact stay_V)) ⟨hM.out.drew, (Below.refl _ _).drew⟩ ?_
      refine rel_val _ rfl rfl (fun _ _ => rfl) (fun _ => ?_)
      simp only [Act.put, List.setIfInBounds_toArray, List.set_cons_zero, List.set_cons_succ]
      refine rel_val _ rfl rfl (fun _ _ => rfl) (fun _ => ?_)
      simp only [Act.put, List.setIfInBounds_toArray, List.set_cons_zero, List.set_cons_succ]
      refine rel_val _ rfl rfl (fun _ _ => rfl) (fun _ => ?_)
      simp only [Act.put, List.setIfInBounds_toArray, List.set_cons_zero, List.set_cons_succ]
      refine rel_index 117 120 _ _ rfl b 0 n c 4 kk rfl rfl hlt Tryd.underlying117 (by kernel_rfl) rfl rfl (fun _ => ?_)
      simp only [Act.put, List.setIfInBounds_toArray, List.set_cons_zero, List.set_cons_succ]
      refine rel_load 120 _ rfl b (0 + kk * 4) rfl (mrow r) _ rfl rfl (fun w' hw' => by rw [Nat.zero_add]; exact range_later HRG.out hw'.2) Tryd.underlying120 rfl sizeMl (fun _ => ?_)
      simp only [Act.put, List.setIfInBounds_toArray, List.set_cons_zero, List.set_cons_succ]
      refine rel_load 120 _ rfl mb 0 rfl (mrow q) _ rfl rfl (fun w' hw' => (hw'.1.at 1 rfl).whole) Tryd.underlying120 rfl sizeMl (fun _ => ?_)
      simp only [Act.put, List.setIfInBounds_toArray, List.set_cons_zero, List.set_cons_succ]
      refine rel_callDyn _ fc #[.agg (mrow r), .agg (mrow q)] rfl rfl rfl rfl rfl HE.out (fun w' hw' => HCR.out w') (fun _ => ?_)
      simp only [Act.put, List.setIfInBounds_toArray, List.set_cons_zero, List.set_cons_succ]
      refine rel_val (.bool (decide (v < 0))) rfl rfl (fun _ _ => by simp [execOp, Act.eval, go_sem]) (fun _ => ?_)
      simp only [Act.put, List.setIfInBounds_toArray, List.set_cons_zero, List.set_cons_succ]
      refine rel_nil (fun W6 inv => ?_)
      have M6 := inv.cls.1
      have B6 := inv.cls.2
      clear inv
      have HRG6 := Lib.hid (range_later HRG.out B6)
      by_cases hneg : v < 0
      · have e := Lib.hid (HY.out hneg)
        go_wp2_with (first
          | (refine wpList_load_part rfl 120 _ rfl b (kk * 4) rfl (mrow r) _ HRG6.out Tryd.underlying120 rfl sizeMl ?_)
          | (refine wpList_store_row rfl 120 _ _ rfl mb (mrow r) rfl rfl 120 _ (M6.at 1 rfl) sizeMl rfl (by simp [mrow, Value.oneCell']) ?_))
        have M7 := M6.row 1 rfl (mrow r)
        go_roundw
        case rel => exact ⟨kk + 1, by omega, by omega, by go_num, by rw [Nat.add_sub_cancel, e.out]; exact Lib.hid M7⟩
        case measure => simp [intOf]; omega
      · have e := Lib.hid (HNN.out hneg)
        go_wp2_with fail
        go_roundw
        case rel => exact ⟨kk + 1, by omega, by omega, by go_num, by rw [Nat.add_sub_cancel, e.out]; exact Lib.hid M6⟩
        case measure => simp [intOf]; omega
    · obtain rfl : k = n := by omega
      obtain ⟨q, hq⟩ : ∃ q, bstC cv F (k - 1) = q := ⟨_, rfl⟩
      have HQ := Lib.hid hq
      rw [hq] at hM
      clear hq
      go_wp2_with (first
        | (refine wpList_load_part rfl 120 _ rfl mb 0 rfl (mrow q) _ (hM.out.at 1 rfl).whole Tryd.underlying120 rfl sizeMl ?_)
        | (refine wpList_store_row rfl 120 _ _ rfl w.heap.size (mrow q) rfl rfl 120 _ (hM.out.at 0 rfl) sizeMl rfl (by simp [mrow, Value.oneCell']) ?_))
      have M7 := hM.out.row 0 rfl (mrow q)
      exact bodyPost_ret (results_cell_row rfl _ _ w.heap.size 120 _ _ _ rfl (M7.at 0 rfl) Tryd.underlying120 rfl sizeMl) rfl ⟨by rw [HQ.out], M7.below⟩
end Go.Proofs.YtaioflkonpommaaDoor
