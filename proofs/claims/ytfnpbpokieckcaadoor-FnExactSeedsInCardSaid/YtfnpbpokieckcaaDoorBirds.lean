/-
  BirdsIn: the model's, the program's.
-/
import Derived.Test.YtfnpbpokieckcaaDoorChkB
namespace Go.Proofs.YtfnpbpokieckcaaDoor
open Go Go.RowKit

def sumTo (g : Nat → Int) : Nat → Int
  | 0 => 0
  | n + 1 => sumTo g n + g n
theorem sumTo_in {g : Nat → Int} {m : Int} : ∀ {n : Nat}, (∀ i, i < n → 0 ≤ g i ∧ g i ≤ m) → 0 ≤ sumTo g n ∧ sumTo g n ≤ m * n
  | 0, _ => by simp [sumTo]
  | n + 1, h => by
    have := sumTo_in (n := n) (fun i hi => h i (by omega))
    have h1 := h n (by omega)
    have e : m * ((n + 1 : Nat) : Int) = m * n + m := by rw [Int.natCast_add, Int.mul_add]; simp
    simp only [sumTo]
    omega
theorem sumTo_succ (g : Nat → Int) (n : Nat) : sumTo g (n + 1) = sumTo g n + g n := rfl
def birdsIn (f : Fd) (n : Nat) (F : Nat → Nat → Int) : Int := if okFlocks f n F then sumTo (fun i => F i 1) n else 0
def birdsCode (f : Fd) (n : Nat) (F : Nat → Nat → Int) : Int := if okFlocks f n F then 0 else 1
theorem ok_birds {f : Fd} {n : Nat} {F : Nat → Nat → Int} (h : okFlocks f n F = true) : n ≤ 12 ∧ ∀ i, i < n → 0 ≤ F i 1 ∧ F i 1 ≤ 200 := by
  simp only [okFlocks, Bool.and_eq_true, decide_eq_true_eq] at h
  refine ⟨h.2, fun i hi => ?_⟩
  have := allTo_iff.1 h.1.2 i hi
  simp only [flockOk, plainOk, Bool.and_eq_true, inB_iff] at this
  exact this.1.1.1.1.1

set_option maxRecDepth 100000 in
set_option maxHeartbeats 1000000 in
theorem specBirdsIn (f : Fd) (hf : f.Wf) (n : Nat) (hn : n ≤ 2 ^ 40) (F : Nat → Nat → Int) (hF : WfS ksFlock n F) (d c : Nat) (w : World) (I : InS w d 0 n ksFlock F) :
    Calls Tryd.prog 24 #[.agg (fcells f), .slice (some ⟨d, 0, none⟩) n c] w fun e w' => e = .returned (.tuple #[.int .i64 (birdsIn f n F), .int .i64 (birdsCode f n F)]) ∧ Below w.heap.size w w' := by
  unfold birdsIn birdsCode
  cases hok : okFlocks f n F with
  | false =>
    simp only [Bool.false_eq_true, if_false]
    go_enter Tryd.func24, Tryd.ntmps24
    go_upto_region 1 with (fail)
    obtain ⟨W, hW, M⟩ := open1 w (fcells f) 28
    rw [hW]; clear hW
    go_wp2_with (go_at_call 56; refine (l02Ok_any f hf n hn F hF _ d c _ (M.at 0 rfl) (I.later M.below)).mono ?_; rintro e w' ⟨rfl, rfl⟩; rw [hok])
    go_ret2
    exact ⟨rfl, M.below⟩
  | true =>
    simp only [if_true]
    obtain ⟨h12, hbd⟩ := ok_birds hok
    have HB := Lib.hid hbd
    have HI := Lib.hid I
    clear hbd
    go_enter Tryd.func24, Tryd.ntmps24
    go_upto_region 1 with (fail)
    obtain ⟨W, hW, M⟩ := open1 w (fcells f) 28
    rw [hW]; clear hW
    go_wp2_with (go_at_call 56; refine (l02Ok_any f hf n hn F hF _ d c _ (M.at 0 rfl) (HI.out.later M.below)).mono ?_; rintro e w' ⟨rfl, rfl⟩; rw [hok])
    have HM := Lib.hid M.below
    clear I M
    go_loop [6, 7] (fun s i => ∃ k : Nat, k ≤ n ∧ i = .int .i64 k ∧ s = .int .i64 (sumTo (fun i => F i 1) k)) (fun _ i => n - (intOf i).toNat)
    case atStart => exact ⟨0, by omega, rfl, rfl⟩
    case round =>
      obtain ⟨k, hk, rfl, rfl⟩ := hrel
      obtain ⟨hs1, hs2⟩ := sumTo_in (g := fun i => F i 1) (m := 200) (n := k) (fun i hi => HB.out i (by omega))
      by_cases hlt : k < n
      · have c1 := (flkAt_of (by have h := HI.out.later HM.out k hlt; rw [Nat.zero_add] at h; exact h) : FlkAt _ d (k * 6) (F k)).c1
        obtain ⟨hb1, hb2⟩ := HB.out k hlt
        go_wp2_with fail
        go_round
        case rel => exact ⟨k + 1, by omega, by go_num, by rw [sumTo_succ]⟩
        case measure => simp [intOf]; omega
      · obtain rfl : k = n := by omega
        go_wp2_with fail
        go_ret2
        exact ⟨rfl, HM.out⟩

set_option maxRecDepth 100000 in
set_option maxHeartbeats 2000000 in
theorem implBirdsIn (f : Fd) (hf : f.Wf) (n : Nat) (hn : n ≤ 2 ^ 40) (F : Nat → Nat → Int) (hF : WfS ksFlock n F) (A : Nat → Addr) (d c : Nat) (w : World) (T0 : TabAt w) (S0 : Sents w A) (I : InS w d 0 n ksFlock F) :
    Calls Tryd.prog 26 #[.agg (fcells f), .slice (some ⟨d, 0, none⟩) n c] w fun e w' => e = .returned (.tuple #[.int .i64 (birdsIn f n F), .int .i64 (birdsCode f n F)]) ∧ Below w.heap.size w w' := by
  have S := Lib.hid S0
  have T := Lib.hid T0
  have HI := Lib.hid I
  clear S0 T0 I
  have hif := isIfaceErr
  unfold birdsIn birdsCode
  cases hok : okFlocks f n F with
  | false =>
    simp only [Bool.false_eq_true, if_false]
    go_enter Tryd.func26, Tryd.ntmps26
    go_upto_region 1 with (fail)
    obtain ⟨W, hW, M⟩ := open1 w (fcells f) 28
    rw [hW]; clear hW
    go_wp2_with (first
      | (refine wpList_load_part rfl 28 _ rfl w.heap.size 0 rfl (fcells f) _ (M.at 0 rfl).whole Tryd.underlying28 rfl (by rw [fcells_size]; exact sizeFd) ?_)
      | (go_at_call 54; refine (checkBirds0 f hf n hn F hF A d c _ (T.out.later M.below) (S.out.later M.below) (HI.out.later M.below)).mono ?_; rintro e W2 ⟨rfl, hb⟩; rw [hok]; simp only [errIf, Bool.false_eq_true, if_false]; have M2 := M.call hb)
      | (go_at_call 38; refine (codeOf_err A 1 (by omega) (by omega) _ (S.out.later M2.below)).mono ?_; rintro e W3 ⟨rfl, rfl⟩))
    go_ret2
    exact ⟨rfl, M2.below⟩
  | true =>
    simp only [if_true]
    obtain ⟨h12, hbd⟩ := ok_birds hok
    have HB := Lib.hid hbd
    clear hbd
    go_enter Tryd.func26, Tryd.ntmps26
    go_upto_region 1 with (fail)
    obtain ⟨W, hW, M⟩ := open1 w (fcells f) 28
    rw [hW]; clear hW
    go_wp2_with (first
      | (refine wpList_load_part rfl 28 _ rfl w.heap.size 0 rfl (fcells f) _ (M.at 0 rfl).whole Tryd.underlying28 rfl (by rw [fcells_size]; exact sizeFd) ?_)
      | (go_at_call 54; refine (checkBirds0 f hf n hn F hF A d c _ (T.out.later M.below) (S.out.later M.below) (HI.out.later M.below)).mono ?_; rintro e W2 ⟨rfl, hb⟩; rw [hok]; simp only [errIf, if_true]; have HM := Lib.hid (M.call hb).below; clear M hb))
    go_loopw [7, 19] (fun s i wr => ∃ k : Nat, k ≤ n ∧ i = .int .i64 k ∧ s = .int .i64 (sumTo (fun i => F i 1) k) ∧ Hid (Below w.heap.size w wr)) (fun _ i _ => n - (intOf i).toNat)
    case atStart => exact ⟨0, by omega, rfl, rfl, HM⟩
    case round =>
      obtain ⟨k, hk, rfl, rfl, hb⟩ := hrel
      obtain ⟨hs1, hs2⟩ := sumTo_in (g := fun i => F i 1) (m := 200) (n := k) (fun i hi => HB.out i (by omega))
      by_cases hlt : k < n
      · obtain ⟨c0, c1, c2, c3, c4, c5⟩ : FlkAt wr d (k * 6) (F k) := flkAt_of (by have h := HI.out.later hb.out k hlt; rw [Nat.zero_add] at h; exact h)
        obtain ⟨hb1, hb2⟩ := HB.out k hlt
        go_wp2_with fail
        go_roundw
        case rel => exact ⟨k + 1, by omega, by go_num, by rw [sumTo_succ], Lib.hid (hb.out.alloc hb.out.size _)⟩
        case measure => simp [intOf]; omega
      · obtain rfl : k = n := by omega
        go_wp2_with fail
        go_ret2
        exact ⟨rfl, hb.out⟩
end Go.Proofs.YtfnpbpokieckcaaDoor
