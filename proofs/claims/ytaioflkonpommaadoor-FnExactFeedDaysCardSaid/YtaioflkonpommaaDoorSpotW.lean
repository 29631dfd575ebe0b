/-
  The program's withSpot: a field with one cell's kind and seeds turned.
-/
import Derived.Test.YtaioflkonpommaaDoorCoreA
import Derived.BigRegion
import Derived.Lib.Hide
namespace Go.Proofs.YtaioflkonpommaaDoor
open Go Go.RowKit

def turned (f : Fd) (n : Nat) (k s : Int) : Fd := (f.setK n k).setS n s
theorem turned_K0 (f : Fd) (n : Nat) (k : Int) : fcells (f.setK n k) = fcells (turned f n k (f.S n)) := fcells_congr rfl rfl (fun i _ => by simp [turned, Fd.setS, Fd.setK]) (fun i _ => by simp [turned, Fd.setS, Fd.setK]; intro e; rw [e])
theorem turned_S0 (f : Fd) (n : Nat) (s : Int) : fcells (f.setS n s) = fcells (turned f n (f.K n) s) := fcells_congr rfl rfl (fun i _ => by simp [turned, Fd.setS, Fd.setK]; intro e; rw [e]) (fun i _ => by simp [turned, Fd.setS, Fd.setK])
set_option maxRecDepth 100000 in
set_option maxHeartbeats 2000000 in
theorem withSpot_any (f : Fd) (n : Nat) (hn : n < 100) (k s : Int) (w : World) : Calls Tryd.prog 96 #[.agg (fcells f), .int .i64 n, .agg #[.int .u8 k, .int .i16 s]] w fun e w' => e = .returned (.agg (fcells (turned f n k s))) ∧ Below w.heap.size w w' := by
  have hn1 : (n : Int) < 100 := by omega
  have hz : Hid (Tryd.zeroCells30.size = 202) := Lib.hid (by rw [zeroFd, fcells_size])
  go_enter Tryd.func96, Tryd.ntmps96
  go_upto_region 1 with (fail)
  obtain ⟨W, hW, M⟩ := open3 w (fcells f) 30 #[.int .u8 k, .int .i16 s] 144 Tryd.zeroCells30 30
  rw [hW]; clear hW
  have M2 := M.alloc Tryd.zeroCells30 30
  have M3 := M2.row 3 rfl (fcells f)
  go_upto_region 2 with (first
    | (refine wpList_load_part rfl 30 _ rfl w.heap.size 0 rfl (fcells f) _ (M.at 0 rfl).whole Tryd.underlying30 rfl (by rw [fcells_size]; exact sizeFd) ?_)
    | (refine wpList_store_row rfl 30 _ _ rfl W.heap.size (fcells f) rfl rfl 30 _ (M2.at 3 rfl) (by rw [fcells_size]; exact sizeFd) (by rw [hz.out, fcells_size]) (fcells_one _) ?_))
  generalize World.setRow _ _ _ = W2 at M3 ⊢
  have c0 := (M3.at 1 rfl).cell (i := 0) rfl
  have c1 := (M3.at 1 rfl).cell (i := 1) rfl
  have cK := (M3.at 3 rfl).cell (fcells_K f n hn)
  have cS := (M3.at 3 rfl).cell (fcells_S f n hn)
  have eK := (M3.at 3 rfl).free (2 + n)
  have eS := (M3.at 3 rfl).free (102 + n)
  have M4 := (M3.set 3 (2 + n) (.int .u8 k) rfl _ (fcells_setK f n k hn)).set 3 (102 + n) (.int .i16 s) rfl _ (fcells_setS _ n s hn)
  have e5 : fcells ((f.setS n s).setK n k) = fcells (turned f n k s) := fcells_congr rfl rfl (fun i _ => by simp [turned, Fd.setS, Fd.setK]) (fun i _ => by simp [turned, Fd.setS, Fd.setK])
  have M5 := (M3.set 3 (102 + n) (.int .i16 s) rfl _ (fcells_setS f n s hn)).set 3 (2 + n) (.int .u8 k) rfl _ ((fcells_setK _ n k hn).trans e5)
  clear M M2
  go_region
  all_goals first
    | (have M6 := M4.drew.row 2 rfl (fcells (turned f n k s)); go_wp2_with (first
        | (refine wpList_load_part rfl 30 _ rfl W.heap.size 0 rfl (fcells (turned f n k s)) _ (M4.drew.at 3 rfl).whole Tryd.underlying30 rfl (by rw [fcells_size]; exact sizeFd) ?_)
        | (refine wpList_store_row rfl 30 _ _ rfl (w.heap.size + 1 + 1) (fcells (turned f n k s)) rfl rfl 30 _ (M4.drew.at 2 rfl) (by rw [fcells_size]; exact sizeFd) (by rw [hz.out, fcells_size]) (fcells_one _) ?_)); exact bodyPost_ret (results_cell_row rfl _ _ (w.heap.size + 1 + 1) 30 _ _ _ rfl (M6.at 2 rfl) Tryd.underlying30 rfl (by rw [fcells_size]; exact sizeFd)) rfl ⟨rfl, M6.below⟩)
    | (have M6 := M5.drew.row 2 rfl (fcells (turned f n k s)); go_wp2_with (first
        | (refine wpList_load_part rfl 30 _ rfl W.heap.size 0 rfl (fcells (turned f n k s)) _ (M5.drew.at 3 rfl).whole Tryd.underlying30 rfl (by rw [fcells_size]; exact sizeFd) ?_)
        | (refine wpList_store_row rfl 30 _ _ rfl (w.heap.size + 1 + 1) (fcells (turned f n k s)) rfl rfl 30 _ (M5.drew.at 2 rfl) (by rw [fcells_size]; exact sizeFd) (by rw [hz.out, fcells_size]) (fcells_one _) ?_)); exact bodyPost_ret (results_cell_row rfl _ _ (w.heap.size + 1 + 1) 30 _ _ _ rfl (M6.at 2 rfl) Tryd.underlying30 rfl (by rw [fcells_size]; exact sizeFd)) rfl ⟨rfl, M6.below⟩)
end Go.Proofs.YtaioflkonpommaaDoor
