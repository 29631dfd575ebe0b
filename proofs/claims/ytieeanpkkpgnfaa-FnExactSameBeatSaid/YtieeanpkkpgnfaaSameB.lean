/-
  SameBeat: the model's way, the program's.
-/
import Derived.Test.YtieeanpkkpgnfaaHlf
namespace Go.Proofs.Ytieeanpkkpgnfaa
open Go Go.RowKit

def sameB (n : Nat) (g : Nat → Int) (m : Nat) (h : Nat → Int) : Bool := n == m && allTo n (fun i => g i == h i)
theorem sameB_len {n m : Nat} {g h : Nat → Int} (e : ¬ n = m) : sameB n g m h = false := by simp [sameB, e]
theorem sameB_no {n : Nat} {g h : Nat → Int} {k : Nat} (hk : k < n) (e : ¬ g k = h k) : sameB n g n h = false := by
  unfold sameB; rw [allTo_false hk (by simpa using e), Bool.and_false]
theorem sameB_yes {n : Nat} {g h : Nat → Int} (e : ∀ i, i < n → g i = h i) : sameB n g n h = true := by
  unfold sameB; rw [allTo_iff.2 (fun i hi => by simpa using e i hi)]; simp
set_option maxRecDepth 100000 in
set_option maxHeartbeats 2000000 in
theorem specSameBeat (n m : Nat) (hn : n ≤ 2 ^ 40) (hm : m ≤ 2 ^ 40) (g h : Nat → Int) (b d c e : Nat) (w : World) (I1 : InH w b 0 n g) (I2 : InH w d 0 m h) :
    Calls Try.prog 4 #[.slice (some ⟨b, 0, none⟩) n c, .slice (some ⟨d, 0, none⟩) m e] w fun e w' => e = .returned (.bool (sameB n g m h)) ∧ Below w.heap.size w w' := by
  have H1 := Lib.hid I1
  have H2 := Lib.hid I2
  clear I1 I2
  by_cases hnm : n = m
  · subst hnm
    go_enter Try.func4, Try.ntmps4
    go_wp2_with fail
    go_loopw [5] (fun i wr => ∃ k : Nat, k ≤ n ∧ i = .int .i64 k ∧ Below w.heap.size w wr ∧ Hid (∀ i, i < k → g i = h i)) (fun i _ => n - (intOf i).toNat)
    case atStart => exact ⟨0, by omega, rfl, Below.refl _ _, Lib.hid (fun i hi => by omega)⟩
    case round =>
      obtain ⟨k, hk, rfl, hb, hall⟩ := hrel
      by_cases hlt : k < n
      · have c0 := (H1.out.later hb) k hlt
        have d0 := (H2.out.later hb) k hlt
        rw [Nat.zero_add] at c0 d0
        by_cases heq : g k = h k
        · have h2 : Hid (∀ i, i < k + 1 → g i = h i) := Lib.hid (fun i hi => by
            by_cases e : i = k
            · rw [e]; exact heq
            · exact hall.out i (by omega))
          rw [← heq] at d0
          go_wp2_with fail
          go_region
          all_goals go_wp2_with fail
          all_goals go_roundw
          all_goals (first | (case rel => exact ⟨k + 1, by omega, by go_num, hb.drew, h2⟩) | skip)
          all_goals (simp [intOf]; omega)
        · have hno : Hid (sameB n g n h = false) := Lib.hid (sameB_no hlt heq)
          have hne : (g k != h k) = true := by simpa using heq
          go_wp2_with fail
          go_region
          all_goals go_wp2_with fail
          all_goals go_ret
          all_goals exact ⟨by rw [hno.out]; rfl, hb.drew⟩
      · obtain rfl : k = n := by omega
        go_wp2_with fail
        go_ret
        exact ⟨by rw [sameB_yes hall.out]; rfl, hb⟩
  · have hne1 : ((n : Int) != (m : Int)) = true := by simp; omega
    rw [sameB_len hnm]
    go_enter Try.func4, Try.ntmps4
    go_wp2_with fail
    go_ret
    exact ⟨rfl, Below.refl _ _⟩
set_option maxRecDepth 100000 in
set_option maxHeartbeats 2000000 in
theorem equalB_any (n m : Nat) (hn : n ≤ 2 ^ 40) (hm : m ≤ 2 ^ 40) (g h : Nat → Int) (b d c e : Nat) (w : World) (I1 : InH w b 0 n g) (I2 : InH w d 0 m h) :
    Calls Try.prog 8 #[.slice (some ⟨b, 0, none⟩) n c, .slice (some ⟨d, 0, none⟩) m e] w fun e w' => e = .returned (.bool (sameB n g m h)) ∧ Below w.heap.size w w' := by
  have H1 := Lib.hid I1
  have H2 := Lib.hid I2
  clear I1 I2
  by_cases hnm : n = m
  · subst hnm
    go_enter Try.func8, Try.ntmps8
    go_wp2_with fail
    go_loopw [5, 13] (fun _ i wr => ∃ k : Nat, k ≤ n ∧ i = .int .i64 k ∧ Below w.heap.size w wr ∧ Hid (∀ i, i < k → g i = h i)) (fun _ i _ => n - (intOf i).toNat)
    case atStart => exact ⟨0, by omega, rfl, Below.refl _ _, Lib.hid (fun i hi => by omega)⟩
    case round =>
      obtain ⟨k, hk, rfl, hb, hall⟩ := hrel
      by_cases hlt : k < n
      · have c0 := (H1.out.later hb) k hlt
        have d0 := (H2.out.later hb) k hlt
        rw [Nat.zero_add] at c0 d0
        by_cases heq : g k = h k
        · have h2 : Hid (∀ i, i < k + 1 → g i = h i) := Lib.hid (fun i hi => by
            by_cases e : i = k
            · rw [e]; exact heq
            · exact hall.out i (by omega))
          rw [← heq] at d0
          go_wp2_with fail
          go_region
          all_goals go_wp2_with fail
          all_goals go_roundw
          all_goals (first | (case rel => exact ⟨k + 1, by omega, by go_num, hb.drew, h2⟩) | skip)
          all_goals (simp [intOf]; omega)
        · have hno : Hid (sameB n g n h = false) := Lib.hid (sameB_no hlt heq)
          have hne : (g k != h k) = true := by simpa using heq
          go_wp2_with fail
          go_region
          all_goals go_wp2_with fail
          all_goals go_ret
          all_goals exact ⟨by rw [hno.out]; rfl, hb.drew⟩
      · obtain rfl : k = n := by omega
        go_wp2_with fail
        go_ret
        exact ⟨by rw [sameB_yes hall.out]; rfl, hb⟩
  · have hne1 : ((n : Int) != (m : Int)) = true := by simp; omega
    rw [sameB_len hnm]
    go_enter Try.func8, Try.ntmps8
    go_wp2_with fail
    go_ret
    exact ⟨rfl, Below.refl _ _⟩
theorem implSameBeat (n m : Nat) (hn : n ≤ 2 ^ 40) (hm : m ≤ 2 ^ 40) (g h : Nat → Int) (b d c e : Nat) (w : World) (I1 : InH w b 0 n g) (I2 : InH w d 0 m h) :
    Calls Try.prog 6 #[.slice (some ⟨b, 0, none⟩) n c, .slice (some ⟨d, 0, none⟩) m e] w fun e w' => e = .returned (.bool (sameB n g m h)) ∧ Below w.heap.size w w' := by
  have H1 := Lib.hid I1
  have H2 := Lib.hid I2
  clear I1 I2
  go_enter Try.func6, Try.ntmps6
  go_wp2_with (go_at_call 8; refine (equalB_any n m hn hm g h b d c e _ H1.out H2.out).mono ?_; rintro e w' ⟨rfl, hb⟩)
  go_ret
  exact ⟨rfl, hb⟩
end Go.Proofs.Ytieeanpkkpgnfaa
