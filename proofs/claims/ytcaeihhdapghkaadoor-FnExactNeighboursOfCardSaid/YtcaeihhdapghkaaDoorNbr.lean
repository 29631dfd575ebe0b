/-
  The cells beside a cell: the model's list, the program's.
-/
import Derived.Test.YtcaeihhdapghkaaDoorSquare
import Derived.Test.YtcaeihhdapghkaaDoorMark
import Derived.Test.YtcaeihhdapghkaaDoorList
namespace Go.Proofs.YtcaeihhdapghkaaDoor
open Go Go.RowKit

def nx (x : Int) (i : Nat) : Int := if i = 1 then x - 1 else if i = 2 then x + 1 else x
def ny (y : Int) (i : Nat) : Int := if i = 0 then y - 1 else if i = 3 then y + 1 else y
def nok (f : Fd) (c : Nat) (i : Nat) : Bool := placeIn f (nx ((c : Int) % 10) i) (ny ((c : Int) / 10) i)
def nval (c : Nat) (i : Nat) : Int := nx ((c : Int) % 10) i + 10 * ny ((c : Int) / 10) i
def nlist (f : Fd) (c : Nat) : Nat → List Int
  | 0 => []
  | k + 1 => if nok f c k = true then nlist f c k ++ [nval c k] else nlist f c k
theorem nlist_hit {f : Fd} {c k : Nat} (h : nok f c k = true) : nlist f c (k + 1) = nlist f c k ++ [nval c k] := by rw [nlist, if_pos h]
theorem nlist_miss {f : Fd} {c k : Nat} (h : nok f c k = false) : nlist f c (k + 1) = nlist f c k := by rw [nlist, if_neg (by rw [h]; decide)]
theorem nlist_le (f : Fd) (c : Nat) : ∀ k, (nlist f c k).length ≤ k
  | 0 => Nat.le_refl _
  | k + 1 => by
    have ih := nlist_le f c k
    cases h : nok f c k with
    | true => rw [nlist_hit h]; simp; omega
    | false => rw [nlist_miss h]; omega
theorem sq_of {a b p q : Int} (h1 : a % 10 - b % 10 = p) (h2 : a / 10 - b / 10 = q) : sq a b = p * p + q * q := by unfold sq; rw [h1, h2]
theorem nbr_ok {f : Fd} (hW : f.W ≤ 10) (_hH : f.H ≤ 10) {c : Nat} (hc : isCell f c = true) {i : Nat} (hi : i < 4) : (isCell f (nval c i) = true ∧ sq c (nval c i) = 1) ↔ nok f c i = true := by
  simp only [isCell, inB, Bool.and_eq_true, decide_eq_true_eq] at hc
  have key : (sq c (nval c i) = 1 ∧ (0 ≤ nval c i ∧ nval c i ≤ 99) ∧ nval c i % 10 < f.W ∧ nval c i / 10 < f.H) ↔ (((0 ≤ nx ((c : Int) % 10) i ∧ nx ((c : Int) % 10) i < f.W) ∧ 0 ≤ ny ((c : Int) / 10) i) ∧ ny ((c : Int) / 10) i < f.H) := by
    match i, hi with
    | 0, _ =>
      have e : sq c (nval c 0) = 0 * 0 + 1 * 1 := sq_of (by simp [nval, nx, ny] <;> omega) (by simp [nval, nx, ny] <;> omega)
      rw [e]; simp [nval, nx, ny] <;> omega
    | 1, _ =>
      by_cases h0 : (c : Int) % 10 = 0
      · have e : sq c (nval c 1) = (-9) * (-9) + 1 * 1 := sq_of (by simp [nval, nx, ny] <;> omega) (by simp [nval, nx, ny] <;> omega)
        rw [e]; simp [nx, ny] <;> omega
      · have e : sq c (nval c 1) = 1 * 1 + 0 * 0 := sq_of (by simp [nval, nx, ny] <;> omega) (by simp [nval, nx, ny] <;> omega)
        rw [e]; simp [nval, nx, ny] <;> omega
    | 2, _ =>
      by_cases h0 : (c : Int) % 10 = 9
      · have e : sq c (nval c 2) = 9 * 9 + (-1) * (-1) := sq_of (by simp [nval, nx, ny] <;> omega) (by simp [nval, nx, ny] <;> omega)
        rw [e]; simp [nx, ny] <;> omega
      · have e : sq c (nval c 2) = (-1) * (-1) + 0 * 0 := sq_of (by simp [nval, nx, ny] <;> omega) (by simp [nval, nx, ny] <;> omega)
        rw [e]; simp [nval, nx, ny] <;> omega
    | 3, _ =>
      have e : sq c (nval c 3) = 0 * 0 + (-1) * (-1) := sq_of (by simp [nval, nx, ny] <;> omega) (by simp [nval, nx, ny] <;> omega)
      rw [e]; simp [nval, nx, ny] <;> omega
  simp only [nok, placeIn, isCell, inB, Bool.and_eq_true, decide_eq_true_eq]
  rw [← key]
  constructor
  · rintro ⟨⟨⟨h1, h2⟩, h3⟩, h4⟩; exact ⟨h4, h1, h2, h3⟩
  · rintro ⟨h4, h1, h2, h3⟩; exact ⟨⟨⟨h1, h2⟩, h3⟩, h4⟩
theorem around_row (c : Nat) : #[Value.int .i64 ((c : Int) - 10), Value.int .i64 ((c : Int) - 1), Value.int .i64 ((c : Int) + 1), Value.int .i64 ((c : Int) + 10)] = acells .i64 4 (nval c) := by
  have h : ∀ i, i < 4 → nval c i = if i = 0 then (c : Int) - 10 else if i = 1 then (c : Int) - 1 else if i = 2 then (c : Int) + 1 else (c : Int) + 10 := by
    intro i hi
    match i, hi with
    | 0, _ => simp [nval, nx, ny] <;> omega
    | 1, _ => simp [nval, nx, ny] <;> omega
    | 2, _ => simp [nval, nx, ny] <;> omega
    | 3, _ => simp [nval, nx, ny] <;> omega
  rw [acells_congr h]
  rfl
set_option maxRecDepth 100000 in
set_option maxHeartbeats 2000000 in
theorem l01Beside_any (f : Fd) (hf : f.Wf) (hW10 : f.W ≤ 10) (hH10 : f.H ≤ 10) (c : Nat) (hcl : c < 100) (hc : isCell f c = true) (b : Nat) (w : World) (B : Blk w b (fcells f) 32) :
    Calls Tryd.prog 56 #[.pointer (some ⟨b, 0, none⟩), .int .i64 c] w fun e w' => ∃ v, e = .returned v ∧ Lst w.heap.size w' v (nlist f c 4) ∧ Below w.heap.size w w' := by
  obtain ⟨i0, hi, hz0, hz1, hz2⟩ := info_parts infoI64
  have HB := Lib.hid B
  have HC := Lib.hid hc
  clear B hc
  go_enter Tryd.func56, Tryd.ntmps56
  go_upto_region 2 with (fail)
  rw [around_row]
  obtain ⟨W, hW, M⟩ := open1 w (acells .i64 4 (nval c)) 108
  have hs0 : W.heap.size = w.heap.size + 1 := by rw [← hW]; simp
  rw [hW]; clear hW
  go_wp2_with fail
  go_loopw [6, 7] (fun v i wr => ∃ k : Nat, k ≤ 4 ∧ i = .int .i64 k ∧ Lst (w.heap.size + 1) wr v (nlist f c k) ∧ Hid (Mem w wr [⟨w.heap.size, acells .i64 4 (nval c), 108⟩]) ∧ w.heap.size + 1 ≤ wr.heap.size) (fun _ i _ => 4 - (intOf i).toNat)
  case atStart =>
    refine ⟨0, Nat.zero_le _, rfl, ?_, Lib.hid (M.lower1 ((Below.refl (w.heap.size + 1) W).alloc (by omega) _) (by omega) (by simp)), by simp; omega⟩
    exact ⟨rfl, .inr ⟨w.heap.size + 1, 0, #[], rfl, Nat.le_refl _, by rw [← hs0]; exact Blk.new _ _ _, Nat.le_refl _, by unfold maxLen; omega, rfl, rfl⟩⟩
  case round =>
    clear M hs0
    obtain ⟨k, hk, rfl, hown, hM, hsz⟩ := hrel
    by_cases hlt : k < 4
    · have c0 := (hM.out.at 0 rfl).cell (acells_get .i64 4 (nval c) k hlt)
      have hle := nlist_le f c k
      have hbl := Lib.hid (HB.out.later hM.out.below)
      have hnb := Lib.hid (nbr_ok hW10 hH10 HC.out hlt)
      cases hcell : isCell f (nval c k) with
      | false =>
        have hno : Hid (nok f c k = false) := Lib.hid (by
          cases h : nok f c k with
          | false => rfl
          | true => have := (hnb.out.2 h).1; rw [hcell] at this; cases this)
        go_wp2_with (go_at_call 52; refine (l01Is_any f _ b _ hf.W hf.H hbl.out).mono ?_; rintro e w' ⟨rfl, rfl⟩; rw [hcell])
        go_roundw
        case rel => exact ⟨k + 1, by omega, by go_num, by rw [nlist_miss hno.out]; exact hown, hM, hsz⟩
        case measure => simp [intOf]; omega
      | true =>
        obtain ⟨m, hm, em⟩ := cell_nat hcell
        have hem : Hid (nval c k = (m : Int)) := Lib.hid em
        rw [em] at c0
        rw [em] at hcell
        clear em
        by_cases h1 : sq c m = 1
        · have hyes : Hid (nok f c k = true) := Lib.hid (hnb.out.1 ⟨by rw [hem.out]; exact hcell, by rw [hem.out]; exact h1⟩)
          go_wp2_with (first
            | (at_builtin; refine wpList_append_own _ rfl _ _ 39 rfl (w.heap.size + 1) 2 i0 (.int .i64 0) 1 8 Tryd.underlying39 hi hz0 hz1 hz2 rfl (by decide) _ _ _ rfl (World.ownsRow.alloc hown _) ⟨wr.heap.size, 0, none⟩ 1 1 [.int .i64 m] rfl rfl (cell_one_new _ _ _) (by simp [Value.oneCell']) (by unfold maxLen; omega) (by omega) (by simp; omega) ?_; intro v' w1 hown' hgrow _)
            | (go_at_call 52; refine (l01Is_any f _ b _ hf.W hf.H hbl.out).mono ?_; rintro e w' ⟨rfl, rfl⟩; rw [hcell])
            | (go_at_call 43; refine (l01Square_any c m hcl hm _).mono ?_; rintro e w' ⟨rfl, rfl⟩; rw [h1]))
          have hb1 := app_below hown hsz hgrow
          go_roundw
          case rel =>
            refine ⟨k + 1, by omega, by go_num, ?_, Lib.hid (hM.out.lower1 hb1 (by omega) (by simp)), Nat.le_trans hsz hb1.size⟩
            rw [nlist_hit hyes.out, hem.out]
            exact Lst.snoc hown'
          case measure => simp [intOf]; omega
        · have hno : Hid (nok f c k = false) := Lib.hid (by
            cases h : nok f c k with
            | false => rfl
            | true => have := (hnb.out.2 h).2; rw [hem.out] at this; exact absurd this h1)
          go_wp2_with (first
            | (go_at_call 52; refine (l01Is_any f _ b _ hf.W hf.H hbl.out).mono ?_; rintro e w' ⟨rfl, rfl⟩; rw [hcell])
            | (go_at_call 43; refine (l01Square_any c m hcl hm _).mono ?_; rintro e w' ⟨rfl, rfl⟩))
          go_roundw
          case rel => exact ⟨k + 1, by omega, by go_num, by rw [nlist_miss hno.out]; exact hown, hM, hsz⟩
          case measure => simp [intOf]; omega
    · obtain rfl : k = 4 := by omega
      go_wp2_with fail
      go_ret
      exact ⟨_, rfl, World.ownsRow.mono hown (by omega), hM.out.below⟩
end Go.Proofs.YtcaeihhdapghkaaDoor
