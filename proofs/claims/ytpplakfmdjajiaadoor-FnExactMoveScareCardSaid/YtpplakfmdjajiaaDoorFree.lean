/-
  A cell for a scarecrow: the model's l03Taken, the program's checkPlace, checkFree, newScare.
-/
import Derived.Test.YtpplakfmdjajiaaDoorFearO
namespace Go.Proofs.YtpplakfmdjajiaaDoor
open Go Go.RowKit

/-- Is the cell taken: by a scarecrow, or by a tree? -/
def takenB (f : Fd) (n : Nat) (F : Nat → Nat → Int) (c : Nat) : Bool := !freeAt F n c || f.K c == 3
theorem freeAt_no {F : Nat → Nat → Int} {n : Nat} {c : Int} {k : Nat} (hk : k < n) (h : F k 0 = c) : freeAt F n c = false := allTo_false hk (by simp [h])
theorem freeAt_yes {F : Nat → Nat → Int} {n : Nat} {c : Int} (h : ∀ i, i < n → (F i 0 != c) = true) : freeAt F n c = true := allTo_iff.2 h
theorem load_f16 (b off : Nat) (n : Int) (w : World) (c : w.cell? ⟨b, off, none⟩ = some (.int .i16 n)) : (Instr.loadAt 24 (.pointer (some ⟨b, off, none⟩))).run Tryd.prog w = .ok (.int .i16 n) w := by
  simp [Instr.loadAt, go_sem, Tryd.underlying24, c]
set_option maxRecDepth 100000 in
set_option maxHeartbeats 4000000 in
theorem l03Taken_any (f : Fd) (n : Nat) (hn : n ≤ 2 ^ 40) (F : Nat → Nat → Int) (hF : ∀ i, i < n → WfT (F i)) (c : Nat) (hc : c < 100) (b d cap : Nat) (w : World) (B : Blk w b (fcells f) 32) (I : InS w d 0 n ksScarecrow F) :
    Calls Tryd.prog 56 #[.pointer (some ⟨b, 0, none⟩), .slice (some ⟨d, 0, none⟩) n cap, .int .i64 c] w fun e w' => e = .returned (.bool (takenB f n F c)) ∧ Below w.heap.size w w' := by
  have HB := Lib.hid B
  have HI := Lib.hid I
  have HF := Lib.hid hF
  clear B I hF
  have hc1 : (c : Int) < 100 := by omega
  go_enter Tryd.func56, Tryd.ntmps56
  go_wp2_with fail
  go_loopw [7] (fun i wr => ∃ k : Nat, k ≤ n ∧ i = .int .i64 k ∧ Hid (∀ i, i < k → (F i 0 != c) = true) ∧ Below w.heap.size w wr) (fun i _ => n - (intOf i).toNat)
  case atStart => exact ⟨0, by omega, rfl, Lib.hid (fun i hi => by omega), Below.refl _ _⟩
  case round =>
    obtain ⟨k, hk, rfl, hall, hb⟩ := hrel
    by_cases hlt : k < n
    · have hw := (HF.out k hlt).b0
      have c0 : wr.cell? ⟨d, k * 3, none⟩ = some (.int .i16 (F k 0)) := by
        have h := (HI.out.later hb) k hlt 0 _ (by rw [Array.getElem?_toList]; exact srow_get ksScarecrow F k 0 (by decide))
        rw [Nat.zero_add, Nat.add_zero] at h; exact h
      obtain ⟨v, hv⟩ : ∃ v, F k 0 = v := ⟨_, rfl⟩
      rw [hv] at c0 hw
      have HV := Lib.hid hv
      clear hv
      by_cases he : v = c
      · have hno : Hid (takenB f n F c = true) := Lib.hid (by unfold takenB; rw [freeAt_no hlt (by rw [HV.out, he])]; rfl)
        subst he
        go_wp2_with fail
        go_ret
        exact ⟨by rw [hno.out]; rfl, hb⟩
      · have hst : Hid ((F k 0 != (c : Int)) = true) := Lib.hid (by rw [HV.out]; simpa using he)
        go_wp2_with fail
        go_roundw
        case rel => exact ⟨k + 1, by omega, by go_num, Lib.hid (upto_succ hall.out hst.out), hb⟩
        case measure => simp [intOf]; omega
    · obtain rfl : k = n := by omega
      have hf1 := freeAt_yes hall.out
      have cK := (HB.out.later hb).cell (fcells_K f c hc)
      have hr : Hid (takenB f k F c = (f.K c == 3)) := Lib.hid (by unfold takenB; rw [hf1]; rfl)
      clear hf1
      cases hk3 : (f.K c == 3) with
      | true =>
        have e3 : f.K c = 3 := by simpa using hk3
        rw [e3] at cK
        have HR : Hid (takenB f k F c = true) := Lib.hid (hr.out.trans hk3)
        clear hk3 e3
        go_wp2_with fail
        go_ret
        exact ⟨by rw [HR.out]; rfl, hb⟩
      | false =>
        have e3 : f.K c ≠ 3 := by simpa using hk3
        clear hk3
        go_wp2_with fail
        go_ret
        exact ⟨by rw [hr.out]; rfl, hb⟩
set_option maxRecDepth 100000 in
set_option maxHeartbeats 4000000 in
theorem newScare_any (c x : Int) (hc : 0 ≤ c ∧ c ≤ 99) (hx : 1 ≤ x ∧ x ≤ 1000) (w : World) :
    Calls Tryd.prog 59 #[.int .i64 c, .int .i64 x] w fun e w' => e = .returned (.agg #[.int .i16 c, .int .i16 x, .int .i8 0]) ∧ Below w.heap.size w w' := by
  obtain ⟨h1, h2⟩ := hc
  obtain ⟨h3, h4⟩ := hx
  have g1 : IntKind.i16.wrap c = c := IntWalk.i16_in _ (by omega)
  have g2 : IntKind.i16.wrap x = x := IntWalk.i16_in _ (by omega)
  go_enter Tryd.func59, Tryd.ntmps59
  go_upto_region 1 with (fail)
  obtain ⟨W, hW, M⟩ := open1 w #[.int .i16 0, .int .i16 0, .int .i8 0] 69
  rw [hW]; clear hW
  have b0 := (M.at 0 rfl).cell (i := 0) (v := .int .i16 0) rfl
  have b1 := (M.at 0 rfl).cell (i := 1) (v := .int .i16 0) rfl
  have b2 := (M.at 0 rfl).cell (i := 2) (v := .int .i8 0) rfl
  have f0 := (M.at 0 rfl).free 0
  have f1 := (M.at 0 rfl).free 1
  have f2 := (M.at 0 rfl).free 2
  go_wp2_with fail
  have M3 := M.cells 0 0 [.int .i16 c, .int .i16 x, .int .i8 0] rfl _ ((((M.at 0 rfl).set 0 _).set 1 _).set 2 _)
  exact bodyPost_ret (results_cell_row rfl _ _ w.heap.size 69 _ _ _ rfl (M3.at 0 rfl) Tryd.underlying69 rfl (by kernel_rfl)) rfl ⟨rfl, M3.below⟩
end Go.Proofs.YtpplakfmdjajiaaDoor
