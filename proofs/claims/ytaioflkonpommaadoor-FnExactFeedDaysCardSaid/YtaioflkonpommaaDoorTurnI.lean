/-
  A cell's kind and seeds changed: the program's way.
-/
import Derived.Test.YtaioflkonpommaaDoorTurn
namespace Go.Proofs.YtaioflkonpommaaDoor
open Go Go.RowKit

theorem sow_codes (f : Fd) (c s : Int) : sowCode f c s = 0 ∨ sowCode f c s = 1 ∨ sowCode f c s = 2 ∨ sowCode f c s = 3 ∨ sowCode f c s = 4 := by
  unfold sowCode asked
  split <;> (try split) <;> (try split) <;> (try split) <;> simp_all
  cases inB (f.S c.toNat + s) 0 1000 <;> simp
set_option maxRecDepth 100000 in
set_option maxHeartbeats 2000000 in
theorem takeFrom_any (f : Fd) (n : Nat) (hn : n < 100) (hS3 : 0 ≤ f.S n) (hS4 : f.S n ≤ 1000) (m : Int) (hm : 0 ≤ m) (hm2 : m ≤ 9223372036854775807) (k : Int) (hk : f.K n = k) (w : World) : Calls Tryd.prog 77 #[.agg (fcells f), .int .i64 n, .int .i64 m] w fun e w' => e = .returned (.tuple #[.agg (fcells (turned f n k (f.S n - minI m (f.S n)))), .int .i64 (minI m (f.S n))]) ∧ Below w.heap.size w w' := by
  have hn1 : (n : Int) < 100 := by omega
  obtain ⟨ht3, ht4⟩ := minI_le hm hS3
  have hz : Hid (Tryd.zeroCells30.size = 202) := Lib.hid (by rw [zeroFd, fcells_size])
  have hz1 : Hid (Tryd.zeroCells30.all (·.oneCell') = true) := Lib.hid (by rw [zeroFd]; exact fcells_one _)
  go_enter Tryd.func77, Tryd.ntmps77
  go_upto_region 1 with (fail)
  obtain ⟨W, hW, M⟩ := open2 w (fcells f) 30 Tryd.zeroCells30 30
  rw [hW]; clear hW
  go_upto_region 2 with (first
    | (refine wpList_load_part rfl 30 _ rfl w.heap.size 0 rfl (fcells f) _ (M.at 0 rfl).whole Tryd.underlying30 rfl (by rw [fcells_size]; exact sizeFd) ?_)
    | (go_at_call 95; refine (spotAt_any f n hn _).mono ?_; rintro e W3 ⟨rfl, hb⟩; rw [hk]; have M3 := M.call hb; clear hb))
  obtain ⟨W4, hW4⟩ : ∃ W4, W3.alloc (.cells #[.int .u8 k, .int .i16 (f.S n)] 144) = W4 := ⟨_, rfl⟩
  have M4 := M3.alloc #[.int .u8 k, .int .i16 (f.S n)] 144
  rw [hW4] at M4 ⊢; clear hW4
  have d1 := (M4.at 2 rfl).cell (i := 1) rfl
  have e1 := (M4.at 2 rfl).free 1
  have M5 := M4.set 2 1 (.int .i16 (f.S n - minI m (f.S n))) rfl #[.int .u8 k, .int .i16 (f.S n - minI m (f.S n))] rfl
  clear M M3
  go_upto_region 3 with (fail)
  rw [show (if f.S n < m then f.S n else m) = minI m (f.S n) by unfold minI; split <;> split <;> omega]
  go_upto_region 4 with (fail)
  generalize World.setCell _ _ _ = W5 at M5 ⊢
  clear M4 d1 e1
  have x0 := (M5.at 2 rfl).cell (i := 0) rfl
  have x1 := (M5.at 2 rfl).cell (i := 1) rfl
  go_wp2_with (first
    | (refine wpList_load_part rfl 30 _ rfl w.heap.size 0 rfl (fcells f) _ (M5.at 0 rfl).whole Tryd.underlying30 rfl (by rw [fcells_size]; exact sizeFd) ?_)
    | (go_at_call 96; refine (withSpot_any f n hn (k) (f.S n - minI m (f.S n)) _).mono ?_; rintro e W6 ⟨rfl, hb⟩; have M6 := M5.call hb; clear hb)
    | (refine wpList_store_row rfl 30 _ _ rfl (w.heap.size + 1) (fcells (turned f n (k) (f.S n - minI m (f.S n)))) rfl rfl 30 _ (M6.at 1 rfl) (by rw [fcells_size]; exact sizeFd) (by rw [hz.out, fcells_size]) (fcells_one _) ?_))
  have M7 := M6.row 1 rfl (fcells (turned f n (k) (f.S n - minI m (f.S n))))
  exact bodyPost_ret (results_row_tmp rfl _ _ (w.heap.size + 1) 30 _ _ _ rfl (M7.at 1 rfl) Tryd.underlying30 rfl (by rw [fcells_size]; exact sizeFd)) rfl ⟨rfl, M7.below⟩
end Go.Proofs.YtaioflkonpommaaDoor
