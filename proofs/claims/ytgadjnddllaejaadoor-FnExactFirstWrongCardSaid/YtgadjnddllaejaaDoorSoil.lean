/-
  Whether a cell is soil: the program's.
-/
import Derived.Test.YtgadjnddllaejaaDoorCoreA
namespace Go.Proofs.YtgadjnddllaejaaDoor
open Go Go.RowKit

set_option maxRecDepth 100000 in
theorem isSoil7 (f : Fd) (hf : f.Wf) (hok : okF f = true) (k : Nat) (hk : k < 100) (w : World) :
    Calls Tryd.prog 44 #[.agg (fcells f), .int .i64 k] w fun e w' => e = .returned (.bool (isCell f (k : Int) && f.K k == 0)) ∧ Below w.heap.size w w' := by
  have hH : f.H ≤ 10 := by have h := hok; simp only [okF, Bool.and_eq_true] at h; exact (inB_iff.1 h.1.2).2
  have hk1 : (k : Int) < 100 := by omega
  have hKb := hf.K k hk
  cases hc : isCell f (k : Int) with
  | false =>
    rw [Bool.false_and]
    go_enter Tryd.func44, Tryd.ntmps44
    go_upto_region 1 with (fail)
    obtain ⟨W, hW, M⟩ := open1 w (fcells f) 30
    rw [hW]; clear hW
    go_wp2_with (first
      | (refine wpList_load_part rfl 30 _ rfl w.heap.size 0 rfl (fcells f) _ (M.at 0 rfl).whole Tryd.underlying30 rfl (by rw [fcells_size]; exact sizeFd) ?_)
      | (go_at_call 43; refine (fieldHas_any f hf hH k (by omega) (by omega) _).mono ?_; rintro e W2 ⟨rfl, hb⟩; rw [hc]; have M2 := M.call hb; clear M hb))
    go_ret
    exact ⟨rfl, M2.below⟩
  | true =>
    rw [Bool.true_and]
    go_enter Tryd.func44, Tryd.ntmps44
    go_upto_region 1 with (fail)
    obtain ⟨W, hW, M⟩ := open1 w (fcells f) 30
    rw [hW]; clear hW
    go_wp2_with (first
      | (refine wpList_load_part rfl 30 _ rfl w.heap.size 0 rfl (fcells f) _ (M.at 0 rfl).whole Tryd.underlying30 rfl (by rw [fcells_size]; exact sizeFd) ?_)
      | (go_at_call 43; refine (fieldHas_any f hf hH k (by omega) (by omega) _).mono ?_; rintro e W2 ⟨rfl, hb⟩; rw [hc]; have M2 := M.call hb; clear M hb; have cK := (M2.at 0 rfl).cell (fcells_K f k hk)))
    go_ret
    exact ⟨rfl, M2.below⟩
end Go.Proofs.YtgadjnddllaejaaDoor
