/-
  BareCells: the model's, the program's.
-/
import Derived.Test.YtpiejcibjphffaaDoorPairS
import Derived.Test.YtpiejcibjphffaaDoorWhereF
import Derived.Test.YtpiejcibjphffaaDoorSets
import Derived.Test.YtpiejcibjphffaaDoorPairL
namespace Go.Proofs.YtpiejcibjphffaaDoor
open Go Go.RowKit Go.Shelf

theorem bared_cell {f g : Fd} (h1 : okF f = true) {k : Nat} (hk : k < 100) (h : baredB f g k = true) : isCell f k = true := by
  cases hc : isCell f k with
  | true => rfl
  | false => simp only [baredB, Bool.and_eq_true, decide_eq_true_eq] at h; rw [ok_outS h1 hk hc] at h; exact absurd h.1 (by decide)
theorem bared_yes {f g : Fd} {k : Nat} (h1 : 0 < f.S k) (h2 : g.S k = 0) : baredB f g k = true := by simp [baredB, h1, h2]
theorem bared_no1 {f g : Fd} {k : Nat} (h1 : ¬ 0 < f.S k) : baredB f g k = false := by simp [baredB, h1]
theorem bared_no2 {f g : Fd} {k : Nat} (h2 : ¬ g.S k = 0) : baredB f g k = false := by simp [baredB, h2]
theorem bZeroC (w : World) : (Instr.build 38 #[]).run Tryd.prog w = .ok (.agg #[.int .u64 0, .int .u64 0]) w := by kernel_rfl
set_option maxRecDepth 100000 in
set_option maxHeartbeats 8000000 in
theorem specBareCells (f g : Fd) (hf : f.Wf) (hg : g.Wf) (w : World) : Calls Tryd.prog 16 #[.agg (fcells f), .agg (fcells g)] w fun e w' => e = .returned (.tuple #[.agg (acells .u64 2 (bareSet f g)), .int .i64 (pairCode f g)]) ∧ Below w.heap.size w w' := by
  unfold bareSet
  by_cases h0 : pairCode f g = 0
  · rw [if_pos h0]
    have hp := Lib.hid h0
    obtain ⟨h1, h2, _, _⟩ := pairCode_fine h0
    have H1 := Lib.hid h1
    clear h0 h1 h2
    obtain ⟨G, hG⟩ : ∃ G, wantSet f (baredB f g) 100 = G := ⟨_, rfl⟩
    rw [hG]
    have HGG := Lib.hid hG
    clear hG
    go_enter Tryd.func16, Tryd.ntmps16
    go_upto_region 1 with (fail)
    rw [zero2]
    obtain ⟨W, hW, M⟩ := open3 w (fcells f) 30 (fcells g) 30 (acells .u64 2 (fun _ => 0)) 38
    rw [hW]; clear hW
    go_upto_region 5 with (first
      | (go_at_call 32; refine (l06Pair_any f g hf hg _ _ _ (M.at 0 rfl) (M.at 1 rfl)).mono ?_; rintro e W2 ⟨rfl, hb⟩; rw [hp.out]; have M2 := M.call hb; clear hb))
    rw [zero2]
    have M3 := M2.alloc (acells .u64 2 (fun _ => 0)) 38
    obtain ⟨bo, hbo⟩ : ∃ bo, bo = W2.heap.size := ⟨_, rfl⟩
    rw [← hbo] at M3 ⊢
    generalize W2.alloc _ = W3 at M3 ⊢
    clear hbo M2 M
    have M0 : Mem w W3 [⟨w.heap.size, fcells f, 30⟩, ⟨w.heap.size + 1, fcells g, 30⟩, ⟨w.heap.size + 1 + 1, acells .u64 2 (fun _ => 0), 38⟩, ⟨bo, acells .u64 2 (wantSet f (baredB f g) 0), 38⟩] := M3
    clear M3
    go_wp2_with fail
    go_loopw [8] (fun i wr => ∃ k : Nat, k ≤ 100 ∧ i = .int .i64 k ∧ Hid (Mem w wr [⟨w.heap.size, fcells f, 30⟩, ⟨w.heap.size + 1, fcells g, 30⟩, ⟨w.heap.size + 1 + 1, acells .u64 2 (fun _ => 0), 38⟩, ⟨bo, acells .u64 2 (wantSet f (baredB f g) k), 38⟩])) (fun i _ => 100 - (intOf i).toNat)
    case atStart => exact ⟨0, by omega, rfl, Lib.hid M0⟩
    case round =>
      clear M0
      obtain ⟨k, hk', rfl, hM⟩ := hrel
      by_cases hlt : k < 100
      · have c1 := (hM.out.at 0 rfl).cell (fcells_S f k hlt)
        have c2 := (hM.out.at 1 rfl).cell (fcells_S g k hlt)
        by_cases hq1 : 0 < f.S k
        · by_cases hq2 : g.S k = 0
          · have hb := bared_yes hq1 hq2
            have hyes := Lib.hid (wantSet_yes (q := baredB f g) (bared_cell H1.out hlt hb) hb)
            have hq3 : (g.S k == 0) = true := by simpa using hq2
            clear hb hq2
            go_wp2_with (first
              | (go_at_call 42; refine (l01Put_any (wantSet f (baredB f g) k) k hlt _ _ (hM.out.at 3 rfl)).mono ?_; rintro e w3 ⟨⟨_, rfl⟩, i, vv, hw2, hset⟩; have M4 := (hM.out.set 3 i vv rfl _ hset).drew; rw [hw2] at M4; have M5 := Lib.hid M4; clear M4))
            go_roundw
            case rel => exact ⟨k + 1, by omega, by go_num, by rw [hyes.out]; exact M5⟩
            case measure => simp [intOf]; omega
          · have hno := Lib.hid (wantSet_no (f := f) (n := k) (q := baredB f g) (by rw [bared_no2 hq2, Bool.and_false]))
            have hq3 : (g.S k == 0) = false := by simpa using hq2
            clear hq2
            go_wp2_with fail
            go_roundw
            case rel => exact ⟨k + 1, by omega, by go_num, by rw [hno.out]; exact hM⟩
            case measure => simp [intOf]; omega
        · have hno := Lib.hid (wantSet_no (f := f) (n := k) (q := baredB f g) (by rw [bared_no1 hq1, Bool.and_false]))
          go_wp2_with fail
          go_roundw
          case rel => exact ⟨k + 1, by omega, by go_num, by rw [hno.out]; exact hM⟩
          case measure => simp [intOf]; omega
      · obtain rfl : k = 100 := by omega
        have M9 := hM.out
        rw [HGG.out] at M9
        go_wp2_with (first
          | (refine wpList_load_part rfl 38 _ rfl bo 0 rfl (acells .u64 2 G) _ (M9.at 3 rfl).whole Tryd.underlying38 rfl (by rw [acells_size]; exact sizeC) ?_)
          | (refine wpList_store_row rfl 38 _ _ rfl (w.heap.size + 1 + 1) (acells .u64 2 G) rfl rfl 38 _ (M9.at 2 rfl) (by rw [acells_size]; exact sizeC) (by simp only [acells_size]) (acells_one _ _ _) ?_))
        have M10 := M9.row 2 rfl (acells .u64 2 G)
        exact bodyPost_ret (results_row_tmp rfl _ _ (w.heap.size + 1 + 1) 38 _ _ _ rfl (M10.at 2 rfl) Tryd.underlying38 rfl (by rw [acells_size]; exact sizeC)) rfl ⟨by rw [hp.out]; rfl, M10.below⟩
  · rw [if_neg h0]
    have hne2 : (pairCode f g != 0) = true := by simpa using h0
    go_enter Tryd.func16, Tryd.ntmps16
    go_upto_region 1 with (fail)
    rw [zero2]
    obtain ⟨W, hW, M⟩ := open3 w (fcells f) 30 (fcells g) 30 (acells .u64 2 (fun _ => 0)) 38
    rw [hW]; clear hW
    go_wp2_with (first
      | (go_at_call 32; refine (l06Pair_any f g hf hg _ _ _ (M.at 0 rfl) (M.at 1 rfl)).mono ?_; rintro e W2 ⟨rfl, hb⟩; have M2 := M.call hb; clear hb)
      | (refine wpList_build0 rfl 38 rfl _ (bZeroC _) ?_; rw [zero2])
      | (refine wpList_store_row rfl 38 _ _ rfl (w.heap.size + 1 + 1) (acells .u64 2 (fun _ => 0)) rfl rfl 38 _ (M2.at 2 rfl) (by rw [acells_size]; exact sizeC) (by simp only [acells_size]) (acells_one _ _ _) ?_))
    have M4 := M2.row 2 rfl (acells .u64 2 (fun _ => 0))
    exact bodyPost_ret (results_row_tmp rfl _ _ (w.heap.size + 1 + 1) 38 _ _ _ rfl (M4.at 2 rfl) Tryd.underlying38 rfl (by rw [acells_size]; exact sizeC)) rfl ⟨rfl, M4.below⟩

set_option maxRecDepth 100000 in
set_option maxHeartbeats 8000000 in
theorem implBareCells (f g : Fd) (hf : f.Wf) (hg : g.Wf) (A : Nat → Addr) (w : World) (S0 : Sents w A) : Calls Tryd.prog 17 #[.agg (fcells f), .agg (fcells g)] w fun e w' => e = .returned (.tuple #[.agg (acells .u64 2 (bareSet f g)), .int .i64 (pairCode f g)]) ∧ Below w.heap.size w w' := by
  unfold bareSet
  have S := Lib.hid S0
  clear S0
  have hif := isIfaceErr
  by_cases h0 : pairCode f g = 0
  · rw [if_pos h0]
    have hp := Lib.hid h0
    obtain ⟨h1, h2, _, _⟩ := pairCode_fine h0
    have H1 := Lib.hid h1
    have hmf : ∀ (fn : Fn) (first cap : Array Value) (w : World), (Instr.makeFunc fn first cap).run Tryd.prog w = .ok (.func fn first cap) w := fun _ _ _ _ => rfl
    rw [h0]
    clear h0 h1 h2
    obtain ⟨G, hG⟩ : ∃ G, wantSet f (baredB f g) 100 = G := ⟨_, rfl⟩
    rw [hG]
    have HGG := Lib.hid hG
    clear hG
    go_enter Tryd.func17, Tryd.ntmps17
    go_upto_region 1 with (fail)
    rw [zero2]
    obtain ⟨W, hW, M⟩ := open3 w (fcells f) 30 (fcells g) 30 (acells .u64 2 (fun _ => 0)) 38
    rw [hW]; clear hW
    have ok1 : True := trivial
    have ok2 : True := trivial
    have hzp : Hid (Tryd.zeroCells67.size = 404) := Lib.hid (by rw [zeroP, pcells_size])
    go_upto_region 2 with (first
      | (clear ok1; (refine wpList_load_part rfl 30 _ rfl w.heap.size 0 rfl (fcells f) _ (M.at 0 rfl).whole Tryd.underlying30 rfl (by rw [fcells_size]; exact sizeFd) ?_))
      | (clear ok2; (refine wpList_load_part rfl 30 _ rfl (w.heap.size + 1) 0 rfl (fcells g) _ (M.at 1 rfl).whole Tryd.underlying30 rfl (by rw [fcells_size]; exact sizeFd) ?_))
      | (go_at_call 36; refine (pairOf_fine f g hf hg hp.out A _ (S.out.later M.below)).mono ?_; rintro e W2 ⟨rfl, hb⟩; have M2 := M.call hb; clear hb; have M3 := M2.alloc Tryd.zeroCells67 67)
      | (refine wpList_store_row rfl 67 _ _ rfl W2.heap.size (pcells f g) rfl rfl 67 _ (M3.at 3 rfl) (by rw [pcells_size]; exact sizeP) (by rw [pcells_size, hzp.out]) (pcells_one _ _) ?_))
    have M4 := M3.row 3 rfl (pcells f g)
    clear M M2 M3
    generalize World.setRow _ _ _ = W4 at M4 ⊢
    obtain ⟨b6, hb6⟩ : ∃ b6, b6 = W2.heap.size := ⟨_, rfl⟩
    rw [← hb6] at M4 ⊢
    clear hb6 hzp
    go_wp2_with (first
      | (refine wpList_load_part rfl 30 _ rfl w.heap.size 0 rfl (fcells f) _ (M4.at 0 rfl).whole Tryd.underlying30 rfl (by rw [fcells_size]; exact sizeFd) ?_)
      | (refine wpList_load_part rfl 67 _ rfl b6 0 rfl (pcells f g) _ (M4.at 3 rfl).whole Tryd.underlying67 rfl (by rw [pcells_size]; exact sizeP) ?_)
      | (go_at_call 43; refine (cellsWhere_first f H1.out 44 #[.agg (pcells f g)] #[] (baredB f g) (fun _ => True) (fun _ _ h hb => trivial) (fun k w' hk _ => isBared_any f g hf hg k (isCell_lt hk) w') _ trivial (enters_of Tryd.func44 (by kernel_rfl) rfl)).mono ?_; rintro e W5 ⟨rfl, hb⟩; rw [HGG.out]; have M5 := M4.call hb; clear hb)
      | (refine wpList_store_row rfl 38 _ _ rfl (w.heap.size + 1 + 1) (acells .u64 2 G) rfl rfl 38 _ (M5.at 2 rfl) (by rw [acells_size]; exact sizeC) (by simp only [acells_size]) (acells_one _ _ _) ?_))
    have M6 := M5.row 2 rfl (acells .u64 2 G)
    exact bodyPost_ret (results_row_tmp rfl _ _ (w.heap.size + 1 + 1) 38 _ _ _ rfl (M6.at 2 rfl) Tryd.underlying38 rfl (by rw [acells_size]; exact sizeC)) rfl ⟨rfl, M6.below⟩
  · rw [if_neg h0]
    obtain ⟨et, ev, hcall, hcode⟩ := pairOf_err f g hf hg h0
    clear h0
    go_enter Tryd.func17, Tryd.ntmps17
    go_upto_region 1 with (fail)
    rw [zero2]
    obtain ⟨W, hW, M⟩ := open3 w (fcells f) 30 (fcells g) 30 (acells .u64 2 (fun _ => 0)) 38
    rw [hW]; clear hW
    have ok1 : True := trivial
    have ok2 : True := trivial
    have hzp : Hid (Tryd.zeroCells67.size = 404) := Lib.hid (by rw [zeroP, pcells_size])
    go_upto_region 2 with (first
      | (clear ok1; (refine wpList_load_part rfl 30 _ rfl w.heap.size 0 rfl (fcells f) _ (M.at 0 rfl).whole Tryd.underlying30 rfl (by rw [fcells_size]; exact sizeFd) ?_))
      | (clear ok2; (refine wpList_load_part rfl 30 _ rfl (w.heap.size + 1) 0 rfl (fcells g) _ (M.at 1 rfl).whole Tryd.underlying30 rfl (by rw [fcells_size]; exact sizeFd) ?_))
      | (go_at_call 36; refine (hcall A _ (S.out.later M.below)).mono ?_; rintro e W2 ⟨rfl, hb⟩; have M2 := M.call hb; clear hb; have M3 := M2.alloc Tryd.zeroCells67 67)
      | (refine wpList_store_row rfl 67 _ _ rfl W2.heap.size (pcells Fd.zero Fd.zero) rfl rfl 67 _ (M3.at 3 rfl) (by rw [pcells_size]; exact sizeP) (by rw [pcells_size, hzp.out]) (pcells_one _ _) ?_))
    have M4 := M3.row 3 rfl (pcells Fd.zero Fd.zero)
    clear M M2 M3
    generalize World.setRow _ _ _ = W4 at M4 ⊢
    obtain ⟨b6, hb6⟩ : ∃ b6, b6 = W2.heap.size := ⟨_, rfl⟩
    rw [← hb6] at M4 ⊢
    clear hb6 hzp
    go_wp2_with (first
      | (go_at_call 37; refine (hcode A _ (S.out.later M4.below)).mono ?_; rintro e W5 ⟨rfl, hb⟩; have M5 := M4.call hb; clear hb)
      | (refine wpList_build0 rfl 38 rfl _ (bZeroC _) ?_; rw [zero2])
      | (refine wpList_store_row rfl 38 _ _ rfl (w.heap.size + 1 + 1) (acells .u64 2 (fun _ => 0)) rfl rfl 38 _ (M5.at 2 rfl) (by rw [acells_size]; exact sizeC) (by simp only [acells_size]) (acells_one _ _ _) ?_))
    have M6 := M5.row 2 rfl (acells .u64 2 (fun _ => 0))
    exact bodyPost_ret (results_row_tmp rfl _ _ (w.heap.size + 1 + 1) 38 _ _ _ rfl (M6.at 2 rfl) Tryd.underlying38 rfl (by rw [acells_size]; exact sizeC)) rfl ⟨rfl, M6.below⟩
end Go.Proofs.YtpiejcibjphffaaDoor
