/-
  Sets of cells: what is in one, in both, in the one alone.
-/
import Derived.Test.YtaccpnpoeikaaaaDoorCoreD
namespace Go.Proofs.YtaccpnpoeikaaaaDoor
open Go Go.RowKit

/-- The set of two words, each made of two words; bits of numbers greater than 99 are left away. -/
def opC (op : BinOp) (f g : Nat → Int) (i : Nat) : Int := if i = 0 then bits op .u64 (f 0) (g 0) else bits .and .u64 (bits op .u64 (f 1) (g 1)) 68719476735
theorem two_cellsU (f : Nat → Int) : acells .u64 2 f = #[.int .u64 (f 0), .int .u64 (f 1)] := rfl

set_option maxRecDepth 100000 in
theorem onlyNumbers_any (x y : Int) (w : World) : Calls Tryd.prog 62 #[.agg #[.int .u64 x, .int .u64 y]] w fun e w' => e = .returned (.agg #[.int .u64 x, .int .u64 (bits .and .u64 y 68719476735)]) ∧ Below w.heap.size w w' := by
  go_enter Tryd.func62, Tryd.ntmps62
  go_wp2_with fail
  exact bodyPost_ret (v := .agg #[.int .u64 x, .int .u64 (bits .and .u64 y 68719476735)]) (by simp [results, Tryd.results62, go_sem]) rfl ⟨rfl, ((Below.refl _ _).alloc (Nat.le_refl _) _).alloc (by simp) _⟩
set_option maxRecDepth 100000 in
set_option maxHeartbeats 400000 in
theorem implWithoutOf (f g : Nat → Int) (w : World) : Calls Tryd.prog 36 #[.agg (acells .u64 2 f), .agg (acells .u64 2 g)] w fun e w' => e = .returned (.agg (acells .u64 2 (opC .andNot f g))) ∧ Below w.heap.size w w' := by
  go_enter Tryd.func36, Tryd.ntmps36
  go_upto_region 1 with (fail)
  obtain ⟨W, hW, M⟩ := open3 w (acells .u64 2 f) 32 (acells .u64 2 g) 32 #[.int .u64 0, .int .u64 0] 32
  rw [hW]; clear hW
  have c0 := (M.at 0 rfl).cell (acells_get _ _ f 0 (by omega))
  have c1 := (M.at 0 rfl).cell (acells_get _ _ f 1 (by omega))
  have g0 := (M.at 1 rfl).cell (acells_get _ _ g 0 (by omega))
  have g1 := (M.at 1 rfl).cell (acells_get _ _ g 1 (by omega))
  go_wp2_with (go_at_call 62; refine (onlyNumbers_any _ _ _).mono ?_; rintro e w1 ⟨rfl, hb⟩; have M1 := M.call hb; have d0 := (M1.at 2 rfl).cell (i := 0) (v := .int .u64 0) rfl; have d1 := (M1.at 2 rfl).cell (i := 1) (v := .int .u64 0) rfl; have e0 := (M1.at 2 rfl).free 0; have e1 := (M1.at 2 rfl).free 1)
  have M2 := (M1.set 2 0 (.int .u64 (opC .andNot f g 0)) rfl _ rfl).set 2 1 (.int .u64 (opC .andNot f g 1)) rfl _ rfl
  exact bodyPost_ret (results_cell_row rfl _ _ (w.heap.size + 1 + 1) 32 _ _ _ rfl (M2.at 2 rfl) Tryd.underlying32 rfl (by kernel_rfl)) rfl ⟨rfl, M2.below⟩
end Go.Proofs.YtaccpnpoeikaaaaDoor
