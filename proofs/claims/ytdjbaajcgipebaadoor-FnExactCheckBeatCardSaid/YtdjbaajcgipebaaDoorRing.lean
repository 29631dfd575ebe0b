/-
  RingOf: the model's, the program's.
-/
import Derived.Test.YtdjbaajcgipebaaDoorWhere
import Derived.Test.YtdjbaajcgipebaaDoorSquare
import Derived.Deep.QuietTactic
import Derived.Test.YtdjbaajcgipebaaDoorRegM
namespace Go.Proofs.YtdjbaajcgipebaaDoor
open Go Go.RowKit

def ringQ (c : Nat) (s : Int) (k : Nat) : Bool := decide (sq c k ≤ s)
def ringCode (f : Fd) (c s : Int) : Int := asked f c (inB s 0 200)
def ringOf (f : Fd) (c s : Int) : Nat → Int := if ringCode f c s = 0 then wantSet f (ringQ c.toNat s) 100 else fun _ => 0
theorem asked_no {f : Fd} {c : Int} {b : Bool} (h : asked f c b = 0) : okF f = true ∧ isCell f c = true ∧ b = true := asked_0 h
set_option maxRecDepth 100000 in
set_option maxHeartbeats 2000000 in
theorem l01Ring_any (f : Fd) (hf : f.Wf) (c : Nat) (hc : c < 100) (s : Int) (hs1 : -9223372036854775808 ≤ s) (hs2 : s ≤ 9223372036854775807) (b : Nat) (w : World) (B : Blk w b (fcells f) 30) :
    Calls Tryd.prog 50 #[.pointer (some ⟨b, 0, none⟩), .int .i64 c, .int .i64 s] w fun e w' => e = .returned (.agg (acells .u64 2 (wantSet f (ringQ c s) 100))) ∧ Below w.heap.size w w' := by
  have HB := Lib.hid B
  clear B
  go_enter Tryd.func50, Tryd.ntmps50
  go_upto_region 2 with (fail)
  rw [zero2]
  obtain ⟨W, hW, M⟩ := open2 w (acells .u64 2 (fun _ => 0)) 45 (acells .u64 2 (fun _ => 0)) 45
  rw [hW]; clear hW
  have M0 : Mem w W [⟨w.heap.size, acells .u64 2 (fun _ => 0), 45⟩, ⟨w.heap.size + 1, acells .u64 2 (wantSet f (ringQ c s) 0), 45⟩] := M
  clear M
  go_wp2_with fail
  go_loopw [8] (fun i wr => ∃ k : Nat, k ≤ 100 ∧ i = .int .i64 k ∧ Hid (Mem w wr [⟨w.heap.size, acells .u64 2 (fun _ => 0), 45⟩, ⟨w.heap.size + 1, acells .u64 2 (wantSet f (ringQ c s) k), 45⟩])) (fun i _ => 100 - (intOf i).toNat)
  case atStart => exact ⟨0, by omega, rfl, Lib.hid M0⟩
  case round =>
    clear M0
    obtain ⟨k, hk, rfl, hM⟩ := hrel
    by_cases hlt : k < 100
    · have hBk := Lib.hid (HB.out.later hM.out.below)
      cases hic : isCell f k with
      | false =>
        have hno : Hid (wantSet f (ringQ c s) (k + 1) = wantSet f (ringQ c s) k) := Lib.hid (wantSet_no (by rw [hic]; rfl))
        go_wp2_with (go_at_call 53; refine (l01Is_any f k b _ hf.W hf.H hBk.out).mono ?_; rintro e w' ⟨rfl, rfl⟩; rw [hic])
        go_roundw
        case rel => exact ⟨k + 1, by omega, by go_num, by rw [hno.out]; exact hM⟩
        case measure => simp [intOf]; omega
      | true =>
        by_cases hle : sq c k ≤ s
        · have hyes : Hid (wantSet f (ringQ c s) (k + 1) = putC (wantSet f (ringQ c s) k) k) := Lib.hid (wantSet_yes hic (by unfold ringQ; exact decide_eq_true hle))
          go_wp2_with (first
            | (go_at_call 53; refine (l01Is_any f k b _ hf.W hf.H hBk.out).mono ?_; rintro e w' ⟨rfl, rfl⟩; rw [hic])
            | (go_at_call 63; refine (l01Square_any c k hc hlt _).mono ?_; rintro e w' ⟨rfl, rfl⟩)
            | (go_at_call 72; refine (l01Put_any (wantSet f (ringQ c s) k) k hlt _ _ (hM.out.at 1 rfl)).mono ?_; rintro e w2 ⟨⟨_, rfl⟩, i, vv, hw2, hset⟩; have M4 := Lib.hid (hM.out.set 1 i vv rfl _ hset).drew; rw [hw2] at M4))
          go_roundw
          case rel => exact ⟨k + 1, by omega, by go_num, by rw [hyes.out]; exact M4⟩
          case measure => simp [intOf]; omega
        · have hno : Hid (wantSet f (ringQ c s) (k + 1) = wantSet f (ringQ c s) k) := Lib.hid (wantSet_no (by unfold ringQ; rw [decide_eq_false hle, Bool.and_false]))
          have hgt : s < sq c k := by omega
          go_wp2_with (first
            | (go_at_call 53; refine (l01Is_any f k b _ hf.W hf.H hBk.out).mono ?_; rintro e w' ⟨rfl, rfl⟩; rw [hic])
            | (go_at_call 63; refine (l01Square_any c k hc hlt _).mono ?_; rintro e w' ⟨rfl, rfl⟩))
          go_roundw
          case rel => exact ⟨k + 1, by omega, by go_num, by rw [hno.out]; exact hM⟩
          case measure => simp [intOf]; omega
    · obtain rfl : k = 100 := by omega
      go_wp2_with (first
        | (refine wpList_load_part rfl 45 _ rfl (w.heap.size + 1) 0 rfl (acells .u64 2 (wantSet f (ringQ c s) 100)) _ (hM.out.at 1 rfl).whole Tryd.underlying45 rfl (by rw [acells_size]; exact sizeC) ?_)
        | (refine wpList_store_row rfl 45 _ _ rfl (w.heap.size) (acells .u64 2 (wantSet f (ringQ c s) 100)) rfl rfl 45 _ (hM.out.at 0 rfl) (by rw [acells_size]; exact sizeC) (by simp only [acells_size]) (acells_one _ _ _) ?_))
      have M2 := hM.out.row 0 rfl (acells .u64 2 (wantSet f (ringQ c s) 100))
      exact bodyPost_ret (results_cell_row rfl _ _ (w.heap.size) 45 _ _ _ rfl (M2.at 0 rfl) Tryd.underlying45 rfl (by rw [acells_size]; exact sizeC)) rfl ⟨rfl, M2.below⟩
theorem load_i64 (b off : Nat) (n : Int) (w : World) (c : w.cell? ⟨b, off, none⟩ = some (.int .i64 n)) : (Instr.loadAt 2 (.pointer (some ⟨b, off, none⟩))).run Tryd.prog w = .ok (.int .i64 n) w := by
  simp [go_sem, c]
end Go.Proofs.YtdjbaajcgipebaaDoor
