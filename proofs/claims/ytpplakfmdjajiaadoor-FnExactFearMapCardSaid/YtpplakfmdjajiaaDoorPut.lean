/-
  A number put into a set: the model's, the program's.
-/
import Derived.Test.YtpplakfmdjajiaaDoorAt
import Derived.Test.YtpplakfmdjajiaaDoorRow
import Derived.Test.YtpplakfmdjajiaaDoorSets
import Derived.BigRegion
import Derived.RangeFuncNested
import Derived.Lib.Hide
namespace Go.Proofs.YtpplakfmdjajiaaDoor
open Go Go.RowKit

/-- A word of a set with one bit more. -/
def withBit (x : Int) (k : Nat) : Int := bits BinOp.or .u64 x (IntKind.u64.wrap (2 ^ k))
/-- A set with one number more. -/
def putC (g : Nat → Int) (k : Nat) : Nat → Int := fun i => if i = k / 64 then withBit (g i) (k % 64) else g i
theorem putC_low (g : Nat → Int) {k : Nat} (h : k < 64) : acells .u64 2 (fun i => if i = 0 then withBit (g 0) k else g i) = acells .u64 2 (putC g k) := acells_congr (fun i _ => by
  unfold putC
  rw [Nat.div_eq_of_lt h, Nat.mod_eq_of_lt h]
  by_cases e : i = 0
  · subst e; simp
  · simp [e])
theorem putC_high (g : Nat → Int) {k : Nat} (h : k < 128) (e1 : ¬ k < 64) : acells .u64 2 (fun i => if i = 1 then withBit (g 1) (k - 64) else g i) = acells .u64 2 (putC g k) := acells_congr (fun i _ => by
  unfold putC
  rw [show k / 64 = 1 by omega, show k % 64 = k - 64 by omega]
  by_cases e : i = 1
  · subst e; simp
  · simp [e])
set_option maxRecDepth 100000 in
set_option maxHeartbeats 1000000 in
theorem l01Put_any (g : Nat → Int) (k : Nat) (hk : k < 100) (b : Nat) (w : World) (B : Blk w b (acells .u64 2 g) 49) :
    Calls Tryd.prog 71 #[.pointer (some ⟨b, 0, none⟩), .int .i64 k] w fun e w' => (∃ v, e = .returned v) ∧ ∃ i v, (w.setCell ⟨b, i, none⟩ v).drew = w' ∧ (acells .u64 2 g).setIfInBounds i v = acells .u64 2 (putC g k) := by
  by_cases h : k < 64
  · have c0 := B.cell (acells_get .u64 2 g 0 (by omega))
    have e0 := B.free 0
    have hq : (k : Int) / 64 = 0 := by omega
    have hr : (k : Int) % 64 = k := by omega
    go_enter Tryd.func71, Tryd.ntmps71
    go_wp2_with fail
    go_region
    all_goals (go_end0; exact ⟨⟨_, rfl⟩, 0, _, rfl, (acells_set .u64 2 g 0 _ (by omega)).trans (putC_low g h)⟩)
  · have c0 := B.cell (acells_get .u64 2 g 1 (by omega))
    have e0 := B.free 1
    have hq : (k : Int) / 64 = 1 := by omega
    have hr : (k : Int) % 64 = ((k - 64 : Nat) : Int) := by omega
    have hl : k - 64 < 64 := by omega
    go_enter Tryd.func71, Tryd.ntmps71
    go_wp2_with fail
    go_region
    all_goals (go_end0; exact ⟨⟨_, rfl⟩, 1, _, rfl, (acells_set .u64 2 g 1 _ (by omega)).trans (putC_high g (by omega) h)⟩)
theorem zero2 : (#[.int .u64 0, .int .u64 0] : Array Value) = acells .u64 2 (fun _ => 0) := rfl
set_option maxRecDepth 100000 in
set_option maxHeartbeats 2000000 in
theorem withCell_any (g : Nat → Int) (k : Nat) (hk : k < 100) (w : World) : Calls Tryd.prog 104 #[.agg (acells .u64 2 g), .int .i64 k] w fun e w' => e = .returned (.agg (acells .u64 2 (putC g k))) ∧ Below w.heap.size w w' := by
  go_enter Tryd.func104, Tryd.ntmps104
  go_upto_region 1 with (fail)
  rw [zero2]
  obtain ⟨W, hW, M⟩ := open2 w (acells .u64 2 g) 49 (acells .u64 2 (fun _ => 0)) 49
  rw [hW]; clear hW
  have fin : ∀ W2, Mem w W2 [⟨w.heap.size, acells .u64 2 (putC g k), 49⟩, ⟨w.heap.size + 1, acells .u64 2 (fun _ => 0), 49⟩] → Mem w (W2.setRow (w.heap.size + 1) (acells .u64 2 (putC g k))) [⟨w.heap.size, acells .u64 2 (putC g k), 49⟩, ⟨w.heap.size + 1, acells .u64 2 (putC g k), 49⟩] := fun W2 H => H.row 1 rfl _
  have FIN := Lib.hid fin
  clear fin
  by_cases h : k < 64
  · have c0 := (M.at 0 rfl).cell (acells_get .u64 2 g 0 (by omega))
    have e0 := (M.at 0 rfl).free 0
    have hq : (k : Int) / 64 = 0 := by omega
    have hr : (k : Int) % 64 = k := by omega
    have M2 := Lib.hid ((M.set 0 0 (.int .u64 (withBit (g 0) k)) rfl _ ((acells_set .u64 2 g 0 _ (by omega)).trans (putC_low g h))).drew)
    go_region
    all_goals (go_wp2_with (first
      | (refine wpList_load_part rfl 49 _ rfl w.heap.size 0 rfl (acells .u64 2 (putC g k)) _ (M2.out.at 0 rfl).whole Tryd.underlying49 rfl (by rw [acells_size]; exact sizeC) ?_)
      | (refine wpList_store_row rfl 49 _ _ rfl (w.heap.size + 1) (acells .u64 2 (putC g k)) rfl rfl 49 _ (M2.out.at 1 rfl) (by rw [acells_size]; exact sizeC) (by rw [acells_size, acells_size]) (acells_one _ _ _) ?_)))
    all_goals exact bodyPost_ret (results_cell_row rfl _ _ (w.heap.size + 1) 49 _ _ _ rfl ((FIN.out _ M2.out).at 1 rfl) Tryd.underlying49 rfl (by rw [acells_size]; exact sizeC)) rfl ⟨rfl, (FIN.out _ M2.out).below⟩
  · have c0 := (M.at 0 rfl).cell (acells_get .u64 2 g 1 (by omega))
    have e0 := (M.at 0 rfl).free 1
    have hq : (k : Int) / 64 = 1 := by omega
    have hr : (k : Int) % 64 = ((k - 64 : Nat) : Int) := by omega
    have hl : k - 64 < 64 := by omega
    have M2 := Lib.hid ((M.set 0 1 (.int .u64 (withBit (g 1) (k - 64))) rfl _ ((acells_set .u64 2 g 1 _ (by omega)).trans (putC_high g (by omega) h))).drew)
    go_region
    all_goals (go_wp2_with (first
      | (refine wpList_load_part rfl 49 _ rfl w.heap.size 0 rfl (acells .u64 2 (putC g k)) _ (M2.out.at 0 rfl).whole Tryd.underlying49 rfl (by rw [acells_size]; exact sizeC) ?_)
      | (refine wpList_store_row rfl 49 _ _ rfl (w.heap.size + 1) (acells .u64 2 (putC g k)) rfl rfl 49 _ (M2.out.at 1 rfl) (by rw [acells_size]; exact sizeC) (by rw [acells_size, acells_size]) (acells_one _ _ _) ?_)))
    all_goals exact bodyPost_ret (results_cell_row rfl _ _ (w.heap.size + 1) 49 _ _ _ rfl ((FIN.out _ M2.out).at 1 rfl) Tryd.underlying49 rfl (by rw [acells_size]; exact sizeC)) rfl ⟨rfl, (FIN.out _ M2.out).below⟩
end Go.Proofs.YtpplakfmdjajiaaDoor
