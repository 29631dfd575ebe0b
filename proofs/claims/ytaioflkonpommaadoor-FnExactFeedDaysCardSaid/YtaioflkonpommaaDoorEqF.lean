/-
  The laws' comparison of fields: a field equals itself.
-/
import Derived.Test.YtaioflkonpommaaDoorCoreA
import Derived.Test.YtaioflkonpommaaDoorCoreB
import Derived.Test.YtaioflkonpommaaDoorLawh
import Derived.Shelf.RegionOpen
import Derived.RangeFuncNested
namespace Go.Proofs.YtaioflkonpommaaDoor
open Go Go.RowKit

set_option maxRecDepth 100000 in
set_option maxHeartbeats 1000000 in
theorem eqField_same (f : Fd) (hfW : -128 ≤ f.W ∧ f.W ≤ 127) (hfH : -128 ≤ f.H ∧ f.H ≤ 127) (w : World) : Calls Tryd.prog 14 #[.agg (fcells f), .agg (fcells f)] w fun e w' => e = .returned (.bool true) ∧ Below w.heap.size w w' := by
  obtain ⟨hW1, hW2⟩ := hfW
  obtain ⟨hH1, hH2⟩ := hfH
  go_enter Tryd.func14, Tryd.ntmps14
  go_upto_region 1 with (fail)
  obtain ⟨W, hW, M⟩ := open2 w (fcells f) 30 (fcells f) 30
  rw [hW]; clear hW
  have c0 := (M.at 0 rfl).cell (fcells_0 f)
  have c1 := (M.at 0 rfl).cell (fcells_1 f)
  have d0 := (M.at 1 rfl).cell (fcells_0 f)
  have d1 := (M.at 1 rfl).cell (fcells_1 f)
  have ok1 : True := trivial
  have ok2 : True := trivial
  have ok3 : True := trivial
  have ok4 : True := trivial
  have ok5 : True := trivial
  have ok6 : True := trivial
  go_wp2_with (first
    | (clear ok1; refine wpList_load_part rfl 23 _ rfl w.heap.size 2 rfl (acells .u8 100 f.K) _ (M.at 0 rfl).kinds Tryd.underlying23 rfl (by rw [acells_size]; exact sizeK) ?_)
    | (clear ok2; refine wpList_load_part rfl 23 _ rfl (w.heap.size + 1) 2 rfl (acells .u8 100 f.K) _ (M.at 1 rfl).kinds Tryd.underlying23 rfl (by rw [acells_size]; exact sizeK) ?_)
    | (clear ok3; go_at_call 49; refine (eqByteA100 f.K _).mono ?_; rintro e W2 ⟨rfl, hb⟩; have M2 := M.call hb; clear hb)
    | (clear ok4; refine wpList_load_part rfl 25 _ rfl w.heap.size 102 rfl (acells .i16 100 f.S) _ (M2.at 0 rfl).seeds Tryd.underlying25 rfl (by rw [acells_size]; exact sizeS) ?_)
    | (clear ok5; refine wpList_load_part rfl 25 _ rfl (w.heap.size + 1) 102 rfl (acells .i16 100 f.S) _ (M2.at 1 rfl).seeds Tryd.underlying25 rfl (by rw [acells_size]; exact sizeS) ?_)
    | (clear ok6; go_at_call 50; refine (eqInt16A100 f.S _).mono ?_; rintro e W3 ⟨rfl, hb⟩; have M3 := M2.call hb; clear hb))
  go_ret
  exact ⟨rfl, M3.below⟩
end Go.Proofs.YtaioflkonpommaaDoor
