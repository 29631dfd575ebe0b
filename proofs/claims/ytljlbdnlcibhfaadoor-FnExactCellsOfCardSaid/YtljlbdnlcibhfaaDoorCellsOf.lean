/-
  CellsOf: the model's, the program's.
-/
import Derived.Test.YtljlbdnlcibhfaaDoorPut
import Derived.Test.YtljlbdnlcibhfaaDoorInts
import Derived.Test.YtljlbdnlcibhfaaDoorErr
namespace Go.Proofs.YtljlbdnlcibhfaaDoor
open Go Go.RowKit

def listSet (g : Nat → Int) : Nat → Nat → Int
  | 0 => fun _ => 0
  | n + 1 => putC (listSet g n) (g n).toNat
def listOk (g : Nat → Int) (n : Nat) : Bool := allTo n (fun i => inB (g i) 0 99)
def cellsOfL (g : Nat → Int) (n : Nat) : Nat → Int := if listOk g n then listSet g n else fun _ => 0
def cellsOfCode (g : Nat → Int) (n : Nat) : Int := if listOk g n then 0 else 2
theorem cellsOf_bad {g : Nat → Int} {n : Nat} (h : listOk g n = false) : cellsOfL g n = (fun _ => 0) ∧ cellsOfCode g n = 2 := by simp [cellsOfL, cellsOfCode, h]
theorem cellsOf_ok {g : Nat → Int} {n : Nat} (h : listOk g n = true) : cellsOfL g n = listSet g n ∧ cellsOfCode g n = 0 := by simp [cellsOfL, cellsOfCode, h]
theorem isNumber_in (n : Int) (w : World) : Calls Tryd.prog 44 #[.int .i64 n] w fun e w' => e = .returned (.bool (inB n 0 99)) ∧ w = w' := by
  by_cases h1 : 0 ≤ n
  · by_cases h2 : n < 100
    · rw [inB_iff.2 ⟨h1, by omega⟩]
      go_enter Tryd.func44, Tryd.ntmps44
      go_wp2_with fail
      go_ret
      exact ⟨rfl, rfl⟩
    · rw [inB_false (.inr (by omega))]
      go_enter Tryd.func44, Tryd.ntmps44
      go_wp2_with fail
      go_ret
      exact ⟨rfl, rfl⟩
  · rw [inB_false (.inl (by omega))]
    go_enter Tryd.func44, Tryd.ntmps44
    go_wp2_with fail
    go_ret
    exact ⟨rfl, rfl⟩

set_option maxRecDepth 100000 in
set_option maxHeartbeats 2000000 in
theorem specCellsOf (n : Nat) (hn : n ≤ 2 ^ 40) (g : Nat → Int) (hg : Wf64 n g) (d c : Nat) (w : World) (J : InI w d 0 n g) : Calls Tryd.prog 16 #[.slice (some ⟨d, 0, none⟩) n c] w fun e w' => e = .returned (.tuple #[.agg (acells .u64 2 (cellsOfL g n)), .int .i64 (cellsOfCode g n)]) ∧ Below w.heap.size w w' := by
  have HJ := Lib.hid J
  have HG := Lib.hid hg
  clear J hg
  go_enter Tryd.func16, Tryd.ntmps16
  go_upto_region 2 with (fail)
  rw [zero2]
  obtain ⟨W, hW, M⟩ := open2 w (acells .u64 2 (fun _ => 0)) 35 (acells .u64 2 (fun _ => 0)) 35
  rw [hW]; clear hW
  have M0 : Mem w W [⟨w.heap.size, acells .u64 2 (fun _ => 0), 35⟩, ⟨w.heap.size + 1, acells .u64 2 (listSet g (0)), 35⟩] := M
  clear M
  go_wp2_with fail
  go_loopw [5] (fun i wr => ∃ k : Nat, k ≤ n ∧ i = .int .i64 k ∧ Hid (Mem w wr [⟨w.heap.size, acells .u64 2 (fun _ => 0), 35⟩, ⟨w.heap.size + 1, acells .u64 2 (listSet g (k)), 35⟩]) ∧ Hid (∀ j, j < k → inB (g j) 0 99 = true)) (fun i _ => n - (intOf i).toNat)
  case atStart => exact ⟨0, by omega, rfl, Lib.hid M0, Lib.hid (fun j hj => by omega)⟩
  case round =>
    clear M0
    obtain ⟨k, hk, rfl, hM, hall⟩ := hrel
    by_cases hlt : k < n
    · have c0 := (HJ.out.later hM.out.below) k hlt
      rw [Nat.zero_add] at c0
      obtain ⟨hg1, hg2⟩ := HG.out k hlt
      cases hq : inB (g k) 0 99 with
      | false =>
        have hx : Hid (listOk g n = false) := Lib.hid (allTo_false hlt hq)
        go_wp2_with (first
          | (go_at_call 26; refine (l00In_any _ _ _ _).mono ?_; rintro e w' ⟨rfl, rfl⟩; first | rw [hq] | rw [hq2])
          | (refine wpList_store_row rfl 35 _ _ rfl (w.heap.size) (acells .u64 2 (fun _ => 0)) rfl rfl 35 _ (hM.out.at 0 rfl) (by rw [acells_size]; exact sizeC) (by simp only [acells_size]) (acells_one _ _ _) ?_))
        have M2 := hM.out.row 0 rfl (acells .u64 2 (fun _ => 0))
        exact bodyPost_ret (results_row_tmp rfl _ _ (w.heap.size) 35 _ _ _ rfl (M2.at 0 rfl) Tryd.underlying35 rfl (by rw [acells_size]; exact sizeC)) rfl ⟨by rw [(cellsOf_bad hx.out).1, (cellsOf_bad hx.out).2]; rfl, M2.below⟩
      | true =>
        obtain ⟨hl, hh⟩ := inB_iff.1 hq
        obtain ⟨m, e⟩ : ∃ m : Nat, g k = (m : Int) := ⟨(g k).toNat, by omega⟩
        have hm : m < 100 := by omega
        have hs : Hid (listSet g (k + 1) = putC (listSet g k) m) := Lib.hid (by rw [listSet, e, Int.toNat_natCast])
        have hq2 : inB (m : Int) 0 99 = true := by rw [← e]; exact hq
        rw [e] at c0
        go_wp2_with (first
          | (go_at_call 26; refine (l00In_any _ _ _ _).mono ?_; rintro e w' ⟨rfl, rfl⟩; first | rw [hq] | rw [hq2])
          | (go_at_call 37; refine (l01Put_any (listSet g k) m hm _ _ (hM.out.at 1 rfl)).mono ?_; rintro e w2 ⟨⟨_, rfl⟩, i, vv, hw2, hset⟩; have M5 := Lib.hid (hM.out.set 1 i vv rfl _ hset).drew; rw [hw2] at M5))
        go_roundw
        case rel => exact ⟨k + 1, by omega, by go_num, by rw [hs.out]; exact M5, Lib.hid (upto_succ hall.out hq)⟩
        case measure => simp [intOf]; omega
    · obtain rfl : k = n := by omega
      have hx : Hid (listOk g k = true) := Lib.hid (allTo_iff.2 hall.out)
      go_wp2_with (first
        | (refine wpList_load_part rfl 35 _ rfl (w.heap.size + 1) 0 rfl (acells .u64 2 (listSet g k)) _ (hM.out.at 1 rfl).whole Tryd.underlying35 rfl (by rw [acells_size]; exact sizeC) ?_)
        | (refine wpList_store_row rfl 35 _ _ rfl (w.heap.size) (acells .u64 2 (listSet g k)) rfl rfl 35 _ (hM.out.at 0 rfl) (by rw [acells_size]; exact sizeC) (by simp only [acells_size]) (acells_one _ _ _) ?_))
      have M2 := hM.out.row 0 rfl (acells .u64 2 (listSet g k))
      exact bodyPost_ret (results_row_tmp rfl _ _ (w.heap.size) 35 _ _ _ rfl (M2.at 0 rfl) Tryd.underlying35 rfl (by rw [acells_size]; exact sizeC)) rfl ⟨by rw [(cellsOf_ok hx.out).1, (cellsOf_ok hx.out).2]; rfl, M2.below⟩

set_option maxRecDepth 100000 in
set_option maxHeartbeats 2000000 in
theorem implCellsOf (n : Nat) (hn : n ≤ 2 ^ 40) (g : Nat → Int) (hg : Wf64 n g) (d c : Nat) (A : Nat → Addr) (w : World) (S0 : Sents w A) (J : InI w d 0 n g) : Calls Tryd.prog 18 #[.slice (some ⟨d, 0, none⟩) n c] w fun e w' => e = .returned (.tuple #[.agg (acells .u64 2 (cellsOfL g n)), .int .i64 (cellsOfCode g n)]) ∧ Below w.heap.size w w' := by
  have HJ := Lib.hid J
  have HG := Lib.hid hg
  clear J hg
  have S : Hid (Sents w A) := Lib.hid S0
  clear S0
  go_enter Tryd.func18, Tryd.ntmps18
  go_upto_region 2 with (fail)
  rw [zero2]
  obtain ⟨W, hW, M⟩ := open2 w (acells .u64 2 (fun _ => 0)) 35 (acells .u64 2 (fun _ => 0)) 35
  rw [hW]; clear hW
  have M0 : Mem w W [⟨w.heap.size, acells .u64 2 (fun _ => 0), 35⟩, ⟨w.heap.size + 1, acells .u64 2 (listSet g (0)), 35⟩] := M
  clear M
  go_wp2_with fail
  go_loopw [9] (fun i wr => ∃ k : Nat, k ≤ n ∧ i = .int .i64 k ∧ Hid (Mem w wr [⟨w.heap.size, acells .u64 2 (fun _ => 0), 35⟩, ⟨w.heap.size + 1, acells .u64 2 (listSet g (k)), 35⟩]) ∧ Hid (∀ j, j < k → inB (g j) 0 99 = true)) (fun i _ => n - (intOf i).toNat)
  case atStart => exact ⟨0, by omega, rfl, Lib.hid M0, Lib.hid (fun j hj => by omega)⟩
  case round =>
    clear M0
    obtain ⟨k, hk, rfl, hM, hall⟩ := hrel
    by_cases hlt : k < n
    · have c0 := (HJ.out.later hM.out.below) k hlt
      rw [Nat.zero_add] at c0
      obtain ⟨hg1, hg2⟩ := HG.out k hlt
      cases hq : inB (g k) 0 99 with
      | false =>
        have hx : Hid (listOk g n = false) := Lib.hid (allTo_false hlt hq)
        have hv2 := (S.out.later hM.out.below).v2
        go_wp2_with (first
          | (go_at_call 44; refine (isNumber_in _ _).mono ?_; rintro e w' ⟨rfl, rfl⟩; first | rw [hq] | rw [hq2])
          | (go_at_call 31; refine (codeOf_err A 2 (by omega) (by omega) _ (S.out.later hM.out.below)).mono ?_; rintro e W3 ⟨rfl, rfl⟩)
          | (refine wpList_store_row rfl 35 _ _ rfl (w.heap.size) (acells .u64 2 (fun _ => 0)) rfl rfl 35 _ (hM.out.at 0 rfl) (by rw [acells_size]; exact sizeC) (by simp only [acells_size]) (acells_one _ _ _) ?_))
        have M2 := hM.out.row 0 rfl (acells .u64 2 (fun _ => 0))
        exact bodyPost_ret (results_row_tmp rfl _ _ (w.heap.size) 35 _ _ _ rfl (M2.at 0 rfl) Tryd.underlying35 rfl (by rw [acells_size]; exact sizeC)) rfl ⟨by rw [(cellsOf_bad hx.out).1, (cellsOf_bad hx.out).2]; rfl, M2.below⟩
      | true =>
        obtain ⟨hl, hh⟩ := inB_iff.1 hq
        obtain ⟨m, e⟩ : ∃ m : Nat, g k = (m : Int) := ⟨(g k).toNat, by omega⟩
        have hm : m < 100 := by omega
        have hs : Hid (listSet g (k + 1) = putC (listSet g k) m) := Lib.hid (by rw [listSet, e, Int.toNat_natCast])
        have hq2 : inB (m : Int) 0 99 = true := by rw [← e]; exact hq
        rw [e] at c0
        go_wp2_with (first
          | (go_at_call 44; refine (isNumber_in _ _).mono ?_; rintro e w' ⟨rfl, rfl⟩; first | rw [hq] | rw [hq2])
          | (refine wpList_load_part rfl 35 _ rfl (w.heap.size + 1) 0 rfl (acells .u64 2 (listSet g k)) _ (hM.out.at 1 rfl).whole Tryd.underlying35 rfl (by rw [acells_size]; exact sizeC) ?_)
          | (go_at_call 45; refine (withCell_any (listSet g k) m hm _).mono ?_; rintro e W4 ⟨rfl, hb4⟩; have M4 := hM.out.call hb4; have M5 := Lib.hid (M4.row 1 rfl (acells .u64 2 (putC (listSet g k) m))))
          | (refine wpList_store_row rfl 35 _ _ rfl (w.heap.size + 1) (acells .u64 2 (putC (listSet g k) m)) rfl rfl 35 _ (M4.at 1 rfl) (by rw [acells_size]; exact sizeC) (by simp only [acells_size]) (acells_one _ _ _) ?_))
        go_roundw
        case rel => exact ⟨k + 1, by omega, by go_num, by rw [hs.out]; exact M5, Lib.hid (upto_succ hall.out hq)⟩
        case measure => simp [intOf]; omega
    · obtain rfl : k = n := by omega
      have hx : Hid (listOk g k = true) := Lib.hid (allTo_iff.2 hall.out)
      go_wp2_with (first
        | (refine wpList_load_part rfl 35 _ rfl (w.heap.size + 1) 0 rfl (acells .u64 2 (listSet g k)) _ (hM.out.at 1 rfl).whole Tryd.underlying35 rfl (by rw [acells_size]; exact sizeC) ?_)
        | (refine wpList_store_row rfl 35 _ _ rfl (w.heap.size) (acells .u64 2 (listSet g k)) rfl rfl 35 _ (hM.out.at 0 rfl) (by rw [acells_size]; exact sizeC) (by simp only [acells_size]) (acells_one _ _ _) ?_))
      have M2 := hM.out.row 0 rfl (acells .u64 2 (listSet g k))
      exact bodyPost_ret (results_row_tmp rfl _ _ (w.heap.size) 35 _ _ _ rfl (M2.at 0 rfl) Tryd.underlying35 rfl (by rw [acells_size]; exact sizeC)) rfl ⟨by rw [(cellsOf_ok hx.out).1, (cellsOf_ok hx.out).2]; rfl, M2.below⟩

end Go.Proofs.YtljlbdnlcibhfaaDoor
