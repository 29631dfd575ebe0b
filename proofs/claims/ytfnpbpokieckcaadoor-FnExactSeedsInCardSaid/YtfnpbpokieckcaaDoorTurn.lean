/-
  A cell's kind and seeds changed: the model's, the program's.
-/
import Derived.Test.YtfnpbpokieckcaaDoorAt
import Derived.Test.YtfnpbpokieckcaaDoorRow
import Derived.Test.YtfnpbpokieckcaaDoorSpotW
namespace Go.Proofs.YtfnpbpokieckcaaDoor
open Go Go.RowKit

theorem asked_yes {f : Fd} {c : Int} {b : Bool} (h1 : okF f = true) (h2 : isCell f c = true) (h3 : b = true) : asked f c b = 0 := by simp [asked, h1, h2, h3]
theorem ok_seeds {f : Fd} {n : Nat} (h : okF f = true) (hn : n < 100) : 0 ≤ f.S n ∧ f.S n ≤ 1000 := by
  simp only [okF, Bool.and_eq_true] at h
  have := allTo_iff.1 h.2 n hn
  simp only [cellOk, Bool.and_eq_true, inB_iff] at this
  exact this.1.1.2
theorem ok_kinds {f : Fd} {n : Nat} (h : okF f = true) (hn : n < 100) : 0 ≤ f.K n ∧ f.K n ≤ 3 := by
  simp only [okF, Bool.and_eq_true] at h
  have := allTo_iff.1 h.2 n hn
  simp only [cellOk, Bool.and_eq_true, inB_iff] at this
  exact this.1.1.1
def withKind (f : Fd) (c k : Int) : Fd := if asked f c (inB k 0 3) = 0 then turned f c.toNat k (if k = 0 then f.S c.toNat else 0) else Fd.zero
def sowCode (f : Fd) (c s : Int) : Int := if asked f c (inB s 0 1000) ≠ 0 then asked f c (inB s 0 1000) else if f.K c.toNat ≠ 0 then 4 else if inB (f.S c.toNat + s) 0 1000 = false then 3 else 0
def sowCell (f : Fd) (c s : Int) : Fd := if sowCode f c s = 0 then turned f c.toNat (f.K c.toNat) (f.S c.toNat + s) else Fd.zero
def minI (a b : Int) : Int := if a < b then a else b
def takeCode (f : Fd) (c m : Int) : Int := asked f c (decide (0 ≤ m))
def takenOf (f : Fd) (c m : Int) : Int := if takeCode f c m = 0 then minI m (f.S c.toNat) else 0
def takeField (f : Fd) (c m : Int) : Fd := if takeCode f c m = 0 then turned f c.toNat (f.K c.toNat) (f.S c.toNat - minI m (f.S c.toNat)) else Fd.zero

set_option maxRecDepth 100000 in
set_option maxHeartbeats 2000000 in
theorem specWithKind (f : Fd) (hf : f.Wf) (c k : Int) (hk1 : -9223372036854775808 ≤ k) (hk2 : k ≤ 9223372036854775807) (w : World) : Calls Tryd.prog 10 #[.agg (fcells f), .int .i64 c, .int .i64 k] w fun e w' => e = .returned (.tuple #[.agg (fcells (withKind f c k)), .int .i64 (asked f c (inB k 0 3))]) ∧ Below w.heap.size w w' := by
  unfold withKind
  have hz : Hid (Tryd.zeroCells28.size = 202) := Lib.hid (by rw [zeroFd, fcells_size])
  have hz1 : Hid (Tryd.zeroCells28.all (·.oneCell') = true) := Lib.hid (by rw [zeroFd]; exact fcells_one _)
  cases h : (asked f c (inB k 0 3) == 0) with
  | false =>
    have h0 : asked f c (inB k 0 3) ≠ 0 := by simpa using h
    have h' : (asked f c (inB k 0 3) != 0) = true := by simpa using h
    rw [if_neg h0]; clear h0
    go_enter Tryd.func10, Tryd.ntmps10
    go_upto_region 1 with (fail)
    obtain ⟨W, hW, M⟩ := open2 w (fcells f) 28 Tryd.zeroCells28 28
    rw [hW]; clear hW
    have M2 := M.row 1 rfl Tryd.zeroCells28
    go_wp2_with (first
      | (go_at_call 34; refine (l01Kind_any _ _).mono ?_; rintro e w' ⟨rfl, rfl⟩)
      | (go_at_call 33; refine (l01Asked_any f hf c _ w.heap.size _ (M.at 0 rfl)).mono ?_; rintro e w' ⟨rfl, rfl⟩)
      | (refine wpList_store_row rfl 28 _ _ rfl (w.heap.size + 1) Tryd.zeroCells28 rfl rfl 28 _ (M.at 1 rfl) (by rw [hz.out]; exact sizeFd) (by rw [hz.out]) hz1.out ?_))
    exact bodyPost_ret (results_row_tmp rfl _ _ (w.heap.size + 1) 28 _ _ _ rfl (M2.at 1 rfl) Tryd.underlying28 rfl (by rw [hz.out]; exact sizeFd)) rfl ⟨by rw [zeroFd]; rfl, M2.below⟩
  | true =>
    have h0 : asked f c (inB k 0 3) = 0 := by simpa using h
    obtain ⟨hok, hc, hkk⟩ := asked_0 h0
    obtain ⟨n, hn, rfl⟩ := cell_nat hc
    rw [if_pos h0, h0]
    have hn1 : (n : Int) < 100 := by omega
    obtain ⟨hk3, hk4⟩ := inB_iff.1 hkk
    clear h h0
    rw [Int.toNat_natCast]
    by_cases hz0 : k = 0
    · subst hz0
      rw [if_pos rfl]
      go_enter Tryd.func10, Tryd.ntmps10
      go_upto_region 1 with (fail)
      obtain ⟨W, hW, M⟩ := open2 w (fcells f) 28 Tryd.zeroCells28 28
      rw [hW]; clear hW
      have cK := (M.at 0 rfl).cell (fcells_K f n hn)
      have eK := (M.at 0 rfl).free (2 + n)
      have M2 := M.set 0 (2 + n) (.int .u8 0) rfl _ ((fcells_setK f n 0 hn).trans (turned_K0 f n 0))
      go_upto_region 7 with (first
        | (go_at_call 34; refine (l01Kind_any _ _).mono ?_; rintro e w' ⟨rfl, rfl⟩)
        | (go_at_call 33; refine (l01Asked_any f hf n _ w.heap.size _ (M.at 0 rfl)).mono ?_; rintro e w' ⟨rfl, rfl⟩; first | rw [asked_yes (b := true) hok hc rfl] | rw [asked_yes hok hc hkk]))
      have M3 := M2.row 1 rfl (fcells (turned f n 0 (f.S n)))
      generalize World.setCell _ _ _ = W2 at M2 M3 ⊢
      go_wp2_with (first
        | (refine wpList_load_part rfl 28 _ rfl w.heap.size 0 rfl (fcells (turned f n 0 (f.S n))) _ (M2.at 0 rfl).whole Tryd.underlying28 rfl (by rw [fcells_size]; exact sizeFd) ?_)
        | (refine wpList_store_row rfl 28 _ _ rfl (w.heap.size + 1) (fcells (turned f n 0 (f.S n))) rfl rfl 28 _ (M2.at 1 rfl) (by rw [fcells_size]; exact sizeFd) (by rw [hz.out, fcells_size]) (fcells_one _) ?_))
      exact bodyPost_ret (results_row_tmp rfl _ _ (w.heap.size + 1) 28 _ _ _ rfl (M3.at 1 rfl) Tryd.underlying28 rfl (by rw [fcells_size]; exact sizeFd)) rfl ⟨rfl, M3.below⟩
    · rw [if_neg hz0]
      go_enter Tryd.func10, Tryd.ntmps10
      go_upto_region 1 with (fail)
      obtain ⟨W, hW, M⟩ := open2 w (fcells f) 28 Tryd.zeroCells28 28
      rw [hW]; clear hW
      have cK := (M.at 0 rfl).cell (fcells_K f n hn)
      have eK := (M.at 0 rfl).free (2 + n)
      have cS := (M.at 0 rfl).cell (fcells_S f n hn)
      have eS := (M.at 0 rfl).free (102 + n)
      have M2 := (M.set 0 (2 + n) (.int .u8 k) rfl _ (fcells_setK f n k hn)).set 0 (102 + n) (.int .i16 0) rfl _ (fcells_setS _ n 0 hn)
      go_upto_region 7 with (first
        | (go_at_call 34; refine (l01Kind_any _ _).mono ?_; rintro e w' ⟨rfl, rfl⟩)
        | (go_at_call 33; refine (l01Asked_any f hf n _ w.heap.size _ (M.at 0 rfl)).mono ?_; rintro e w' ⟨rfl, rfl⟩; first | rw [asked_yes (b := true) hok hc rfl] | rw [asked_yes hok hc hkk]))
      have M3 := M2.row 1 rfl (fcells (turned f n k 0))
      generalize World.setCell _ _ _ = W2 at M2 M3 ⊢
      go_wp2_with (first
        | (refine wpList_load_part rfl 28 _ rfl w.heap.size 0 rfl (fcells (turned f n k 0)) _ (M2.at 0 rfl).whole Tryd.underlying28 rfl (by rw [fcells_size]; exact sizeFd) ?_)
        | (refine wpList_store_row rfl 28 _ _ rfl (w.heap.size + 1) (fcells (turned f n k 0)) rfl rfl 28 _ (M2.at 1 rfl) (by rw [fcells_size]; exact sizeFd) (by rw [hz.out, fcells_size]) (fcells_one _) ?_))
      exact bodyPost_ret (results_row_tmp rfl _ _ (w.heap.size + 1) 28 _ _ _ rfl (M3.at 1 rfl) Tryd.underlying28 rfl (by rw [fcells_size]; exact sizeFd)) rfl ⟨rfl, M3.below⟩
set_option maxRecDepth 100000 in
set_option maxHeartbeats 2000000 in
theorem specSowCell (f : Fd) (hf : f.Wf) (c s : Int) (hs1 : -9223372036854775808 ≤ s) (hs2 : s ≤ 9223372036854775807) (w : World) : Calls Tryd.prog 14 #[.agg (fcells f), .int .i64 c, .int .i64 s] w fun e w' => e = .returned (.tuple #[.agg (fcells (sowCell f c s)), .int .i64 (sowCode f c s)]) ∧ Below w.heap.size w w' := by
  unfold sowCell
  have hz : Hid (Tryd.zeroCells28.size = 202) := Lib.hid (by rw [zeroFd, fcells_size])
  have hz1 : Hid (Tryd.zeroCells28.all (·.oneCell') = true) := Lib.hid (by rw [zeroFd]; exact fcells_one _)
  cases h : (asked f c (inB s 0 1000) == 0) with
  | false =>
    have h0 : asked f c (inB s 0 1000) ≠ 0 := by simpa using h
    have h' : (asked f c (inB s 0 1000) != 0) = true := by simpa using h
    have hr : sowCode f c s = asked f c (inB s 0 1000) := by unfold sowCode; rw [if_pos h0]
    rw [hr, if_neg h0]; clear h0 hr
    go_enter Tryd.func14, Tryd.ntmps14
    go_upto_region 1 with (fail)
    obtain ⟨W, hW, M⟩ := open2 w (fcells f) 28 Tryd.zeroCells28 28
    rw [hW]; clear hW
    have M2 := M.row 1 rfl Tryd.zeroCells28
    go_wp2_with (first
      | (go_at_call 43; refine (l01Seeds_any _ _).mono ?_; rintro e w' ⟨rfl, rfl⟩)
      | (go_at_call 33; refine (l01Asked_any f hf c _ w.heap.size _ (M.at 0 rfl)).mono ?_; rintro e w' ⟨rfl, rfl⟩)
      | (refine wpList_store_row rfl 28 _ _ rfl (w.heap.size + 1) Tryd.zeroCells28 rfl rfl 28 _ (M.at 1 rfl) (by rw [hz.out]; exact sizeFd) (by rw [hz.out]) hz1.out ?_))
    exact bodyPost_ret (results_row_tmp rfl _ _ (w.heap.size + 1) 28 _ _ _ rfl (M2.at 1 rfl) Tryd.underlying28 rfl (by rw [hz.out]; exact sizeFd)) rfl ⟨by rw [zeroFd]; rfl, M2.below⟩
  | true =>
    have h0 : asked f c (inB s 0 1000) = 0 := by simpa using h
    have h00 : ¬ asked f c (inB s 0 1000) ≠ 0 := by simpa using h
    obtain ⟨hok, hc, hss⟩ := asked_0 h0
    obtain ⟨n, hn, rfl⟩ := cell_nat hc
    have hn1 : (n : Int) < 100 := by omega
    obtain ⟨hs3, hs4⟩ := inB_iff.1 hss
    obtain ⟨hS3, hS4⟩ := ok_seeds hok hn
    obtain ⟨hK3, hK4⟩ := ok_kinds hok hn
    by_cases hk : f.K n = 0
    · have hk' : (f.K n != 0) = false := by simpa using hk
      cases hl : inB (f.S n + s) 0 1000 with
      | false =>
        have hr : sowCode f n s = 3 := by unfold sowCode; rw [if_neg h00, Int.toNat_natCast, if_neg (by simpa using hk), if_pos hl]
        rw [hr, if_neg (by omega)]; clear hr h h0 h00
        go_enter Tryd.func14, Tryd.ntmps14
        go_upto_region 1 with (fail)
        obtain ⟨W, hW, M⟩ := open2 w (fcells f) 28 Tryd.zeroCells28 28
        rw [hW]; clear hW
        have cK := (M.at 0 rfl).cell (fcells_K f n hn)
        have cS := (M.at 0 rfl).cell (fcells_S f n hn)
        have eS := (M.at 0 rfl).free (102 + n)
        have M2 := M.row 1 rfl Tryd.zeroCells28
        go_wp2_with (first
          | (go_at_call 43; refine (l01Seeds_any _ _).mono ?_; rintro e w' ⟨rfl, rfl⟩; try rw [hl])
          | (go_at_call 33; refine (l01Asked_any f hf n _ w.heap.size _ (M.at 0 rfl)).mono ?_; rintro e w' ⟨rfl, rfl⟩; first | rw [asked_yes (b := true) hok hc rfl] | rw [asked_yes hok hc hss])
          | (refine wpList_store_row rfl 28 _ _ rfl (w.heap.size + 1) Tryd.zeroCells28 rfl rfl 28 _ (M.at 1 rfl) (by rw [hz.out]; exact sizeFd) (by rw [hz.out]) hz1.out ?_))
        exact bodyPost_ret (results_row_tmp rfl _ _ (w.heap.size + 1) 28 _ _ _ rfl (M2.at 1 rfl) Tryd.underlying28 rfl (by rw [hz.out]; exact sizeFd)) rfl ⟨by rw [zeroFd]; rfl, M2.below⟩
      | true =>
        have hr : sowCode f n s = 0 := by unfold sowCode; rw [if_neg h00, Int.toNat_natCast, if_neg (by simpa using hk), if_neg (by simp [hl])]
        obtain ⟨hl3, hl4⟩ := inB_iff.1 hl
        rw [hr, if_pos rfl, Int.toNat_natCast, hk]; clear hr h h0 h00
        have eT := turned_S0 f n (f.S n + s)
        rw [hk] at eT
        go_enter Tryd.func14, Tryd.ntmps14
        go_upto_region 1 with (fail)
        obtain ⟨W, hW, M⟩ := open2 w (fcells f) 28 Tryd.zeroCells28 28
        rw [hW]; clear hW
        have cK := (M.at 0 rfl).cell (fcells_K f n hn)
        have cS := (M.at 0 rfl).cell (fcells_S f n hn)
        have eS := (M.at 0 rfl).free (102 + n)
        have M2 := M.set 0 (102 + n) (.int .i16 (f.S n + s)) rfl _ ((fcells_setS f n (f.S n + s) hn).trans eT)
        go_upto_region 9 with (first
          | (go_at_call 43; refine (l01Seeds_any _ _).mono ?_; rintro e w' ⟨rfl, rfl⟩; try rw [hl])
          | (go_at_call 33; refine (l01Asked_any f hf n _ w.heap.size _ (M.at 0 rfl)).mono ?_; rintro e w' ⟨rfl, rfl⟩; first | rw [asked_yes (b := true) hok hc rfl] | rw [asked_yes hok hc hss]))
        have M3 := M2.row 1 rfl (fcells (turned f n 0 (f.S n + s)))
        generalize World.setCell _ _ _ = W2 at M2 M3 ⊢
        go_wp2_with (first
          | (refine wpList_load_part rfl 28 _ rfl w.heap.size 0 rfl (fcells (turned f n 0 (f.S n + s))) _ (M2.at 0 rfl).whole Tryd.underlying28 rfl (by rw [fcells_size]; exact sizeFd) ?_)
          | (refine wpList_store_row rfl 28 _ _ rfl (w.heap.size + 1) (fcells (turned f n 0 (f.S n + s))) rfl rfl 28 _ (M2.at 1 rfl) (by rw [fcells_size]; exact sizeFd) (by rw [hz.out, fcells_size]) (fcells_one _) ?_))
        exact bodyPost_ret (results_row_tmp rfl _ _ (w.heap.size + 1) 28 _ _ _ rfl (M3.at 1 rfl) Tryd.underlying28 rfl (by rw [fcells_size]; exact sizeFd)) rfl ⟨rfl, M3.below⟩
    · have hk' : (f.K n != 0) = true := by simpa using hk
      have hr : sowCode f n s = 4 := by unfold sowCode; rw [if_neg h00, Int.toNat_natCast, if_pos hk]
      rw [hr, if_neg (by omega)]; clear hr h h0 h00
      go_enter Tryd.func14, Tryd.ntmps14
      go_upto_region 1 with (fail)
      obtain ⟨W, hW, M⟩ := open2 w (fcells f) 28 Tryd.zeroCells28 28
      rw [hW]; clear hW
      have cK := (M.at 0 rfl).cell (fcells_K f n hn)
      have cS := (M.at 0 rfl).cell (fcells_S f n hn)
      have eS := (M.at 0 rfl).free (102 + n)
      have M2 := M.row 1 rfl Tryd.zeroCells28
      go_wp2_with (first
        | (go_at_call 43; refine (l01Seeds_any _ _).mono ?_; rintro e w' ⟨rfl, rfl⟩)
        | (go_at_call 33; refine (l01Asked_any f hf n _ w.heap.size _ (M.at 0 rfl)).mono ?_; rintro e w' ⟨rfl, rfl⟩; first | rw [asked_yes (b := true) hok hc rfl] | rw [asked_yes hok hc hss])
        | (refine wpList_store_row rfl 28 _ _ rfl (w.heap.size + 1) Tryd.zeroCells28 rfl rfl 28 _ (M.at 1 rfl) (by rw [hz.out]; exact sizeFd) (by rw [hz.out]) hz1.out ?_))
      exact bodyPost_ret (results_row_tmp rfl _ _ (w.heap.size + 1) 28 _ _ _ rfl (M2.at 1 rfl) Tryd.underlying28 rfl (by rw [hz.out]; exact sizeFd)) rfl ⟨by rw [zeroFd]; rfl, M2.below⟩
theorem l00Min_any (a b : Int) (w : World) : Calls Tryd.prog 46 #[.int .i64 a, .int .i64 b] w fun e w' => e = .returned (.int .i64 (minI a b)) ∧ w = w' := by
  unfold minI
  by_cases h : a < b
  · rw [if_pos h]
    go_enter Tryd.func46, Tryd.ntmps46
    go_wp2_with fail
    go_ret
    exact ⟨rfl, rfl⟩
  · rw [if_neg h]
    go_enter Tryd.func46, Tryd.ntmps46
    go_wp2_with fail
    go_ret
    exact ⟨rfl, rfl⟩
theorem minI_le {m s : Int} (hm : 0 ≤ m) (hs : 0 ≤ s) : 0 ≤ minI m s ∧ minI m s ≤ s := by
  unfold minI; split <;> omega
set_option maxRecDepth 100000 in
set_option maxHeartbeats 2000000 in
theorem specTakeSeeds (f : Fd) (hf : f.Wf) (c m : Int) (hm1 : -9223372036854775808 ≤ m) (hm2 : m ≤ 9223372036854775807) (w : World) : Calls Tryd.prog 16 #[.agg (fcells f), .int .i64 c, .int .i64 m] w fun e w' => e = .returned (.tuple #[.agg (fcells (takeField f c m)), .int .i64 (takenOf f c m), .int .i64 (takeCode f c m)]) ∧ Below w.heap.size w w' := by
  unfold takeField takenOf
  have hz : Hid (Tryd.zeroCells28.size = 202) := Lib.hid (by rw [zeroFd, fcells_size])
  have hz1 : Hid (Tryd.zeroCells28.all (·.oneCell') = true) := Lib.hid (by rw [zeroFd]; exact fcells_one _)
  cases h : (takeCode f c m == 0) with
  | false =>
    have h0 : takeCode f c m ≠ 0 := by simpa using h
    have h' : (takeCode f c m != 0) = true := by simpa using h
    rw [if_neg h0, if_neg h0]; clear h0 h
    unfold takeCode at h' ⊢
    by_cases hm : 0 ≤ m
    · rw [decide_eq_true hm] at h' ⊢
      go_enter Tryd.func16, Tryd.ntmps16
      go_upto_region 1 with (fail)
      obtain ⟨W, hW, M⟩ := open2 w (fcells f) 28 Tryd.zeroCells28 28
      rw [hW]; clear hW
      have M2 := M.row 1 rfl Tryd.zeroCells28
      go_wp2_with (first
        | (go_at_call 33; refine (l01Asked_any f hf c _ w.heap.size _ (M.at 0 rfl)).mono ?_; rintro e w' ⟨rfl, rfl⟩)
        | (refine wpList_store_row rfl 28 _ _ rfl (w.heap.size + 1) Tryd.zeroCells28 rfl rfl 28 _ (M.at 1 rfl) (by rw [hz.out]; exact sizeFd) (by rw [hz.out]) hz1.out ?_))
      exact bodyPost_ret (results_row_tmp2 rfl _ _ (w.heap.size + 1) 28 _ _ _ rfl (M2.at 1 rfl) Tryd.underlying28 rfl (by rw [hz.out]; exact sizeFd)) rfl ⟨by rw [zeroFd]; rfl, M2.below⟩
    · rw [decide_eq_false hm] at h' ⊢
      go_enter Tryd.func16, Tryd.ntmps16
      go_upto_region 1 with (fail)
      obtain ⟨W, hW, M⟩ := open2 w (fcells f) 28 Tryd.zeroCells28 28
      rw [hW]; clear hW
      have M2 := M.row 1 rfl Tryd.zeroCells28
      go_wp2_with (first
        | (go_at_call 33; refine (l01Asked_any f hf c _ w.heap.size _ (M.at 0 rfl)).mono ?_; rintro e w' ⟨rfl, rfl⟩)
        | (refine wpList_store_row rfl 28 _ _ rfl (w.heap.size + 1) Tryd.zeroCells28 rfl rfl 28 _ (M.at 1 rfl) (by rw [hz.out]; exact sizeFd) (by rw [hz.out]) hz1.out ?_))
      exact bodyPost_ret (results_row_tmp2 rfl _ _ (w.heap.size + 1) 28 _ _ _ rfl (M2.at 1 rfl) Tryd.underlying28 rfl (by rw [hz.out]; exact sizeFd)) rfl ⟨by rw [zeroFd]; rfl, M2.below⟩
  | true =>
    have h0 : takeCode f c m = 0 := by simpa using h
    rw [if_pos h0, if_pos h0, h0]
    obtain ⟨hok, hc, hmm⟩ := asked_0 h0
    have hm : 0 ≤ m := of_decide_eq_true hmm
    obtain ⟨n, hn, rfl⟩ := cell_nat hc
    have hn1 : (n : Int) < 100 := by omega
    obtain ⟨hS3, hS4⟩ := ok_seeds hok hn
    rw [Int.toNat_natCast]
    obtain ⟨ht3, ht4⟩ := minI_le hm hS3
    clear h h0 hmm
    go_enter Tryd.func16, Tryd.ntmps16
    go_upto_region 1 with (fail)
    obtain ⟨W, hW, M⟩ := open2 w (fcells f) 28 Tryd.zeroCells28 28
    rw [hW]; clear hW
    have cS := (M.at 0 rfl).cell (fcells_S f n hn)
    have eS := (M.at 0 rfl).free (102 + n)
    have M2 := M.set 0 (102 + n) (.int .i16 (f.S n - minI m (f.S n))) rfl _ ((fcells_setS f n (f.S n - minI m (f.S n)) hn).trans (turned_S0 f n (f.S n - minI m (f.S n))))
    go_upto_region 6 with (first
      | (go_at_call 46; refine (l00Min_any _ _ _).mono ?_; rintro e w' ⟨rfl, rfl⟩)
      | (go_at_call 33; refine (l01Asked_any f hf n _ w.heap.size _ (M.at 0 rfl)).mono ?_; rintro e w' ⟨rfl, rfl⟩; rw [asked_yes (b := true) hok hc rfl]))
    have M3 := M2.row 1 rfl (fcells (turned f n (f.K n) (f.S n - minI m (f.S n))))
    generalize World.setCell _ _ _ = W2 at M2 M3 ⊢
    go_wp2_with (first
      | (refine wpList_load_part rfl 28 _ rfl w.heap.size 0 rfl (fcells (turned f n (f.K n) (f.S n - minI m (f.S n)))) _ (M2.at 0 rfl).whole Tryd.underlying28 rfl (by rw [fcells_size]; exact sizeFd) ?_)
      | (refine wpList_store_row rfl 28 _ _ rfl (w.heap.size + 1) (fcells (turned f n (f.K n) (f.S n - minI m (f.S n)))) rfl rfl 28 _ (M2.at 1 rfl) (by rw [fcells_size]; exact sizeFd) (by rw [hz.out, fcells_size]) (fcells_one _) ?_))
    exact bodyPost_ret (results_row_tmp2 rfl _ _ (w.heap.size + 1) 28 _ _ _ rfl (M3.at 1 rfl) Tryd.underlying28 rfl (by rw [fcells_size]; exact sizeFd)) rfl ⟨rfl, M3.below⟩
end Go.Proofs.YtfnpbpokieckcaaDoor
