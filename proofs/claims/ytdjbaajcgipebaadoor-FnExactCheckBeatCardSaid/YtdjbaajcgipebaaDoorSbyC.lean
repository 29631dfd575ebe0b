/-
  SeenBy: the model's, the program's.
-/
import Derived.Test.YtdjbaajcgipebaaDoorSby
namespace Go.Proofs.YtdjbaajcgipebaaDoor
open Go Go.RowKit

theorem i16_i64 {x : Int} (h1 : -32768 ≤ x) (h2 : x ≤ 32767) : IntKind.i64.wrap x = x := by
  rw [IntKind.wrap_i64]; omega
set_option maxRecDepth 100000 in
set_option maxHeartbeats 4000000 in
theorem specSeenBy (f : Fd) (hf : f.Wf) (n : Nat) (hn : n ≤ 2 ^ 40) (g : Nat → Int) (hg : WfH n g) (s : Int) (b c : Nat) (w : World) (I : InH w b 0 n g) :
    Calls Tryd.prog 24 #[.agg (fcells f), .slice (some ⟨b, 0, none⟩) n c, .int .i64 s] w fun e w' => e = .returned (.tuple #[.agg (acells .u64 2 (seenSet f n g s)), .int .i64 (beatAsk f n g s true)]) ∧ Below w.heap.size w w' := by
  have HI := Lib.hid I
  clear I
  unfold seenSet
  obtain ⟨c0, hc0⟩ : ∃ y, beatAsk f n g s true = y := ⟨_, rfl⟩
  have HC := Lib.hid hc0
  rw [hc0]
  by_cases hz : c0 = 0
  · subst hz
    obtain ⟨h1, ⟨h2, h3⟩, _⟩ := beatAsk_0 hc0
    obtain ⟨_, n1, n2⟩ := okB_iff h1
    have hG := Lib.hid (CellsG.of (okB_ok h1))
    rw [if_pos rfl, ← saw_eq (s := s) hG.out]
    clear h1 hc0
    go_enter Tryd.func24, Tryd.ntmps24
    go_upto_region 1 with (fail)
    rw [zero2]
    obtain ⟨W, hW, M⟩ := open2 w (fcells f) 30 (acells .u64 2 (fun _ => 0)) 45
    rw [hW]; clear hW
    go_upto_region 4 with (go_at_call 41; refine (l05Asked_any f hf n hn g hg s true _ b c _ (M.at 0 rfl) (HI.out.later M.below)).mono ?_; rintro e w' ⟨rfl, rfl⟩; rw [HC.out])
    obtain ⟨bo, hbo⟩ : ∃ bo, bo = W.heap.size := ⟨_, rfl⟩
    have M1 : Mem w (W.alloc (.cells #[.int .u64 0, .int .u64 0] 45)) [⟨w.heap.size, fcells f, 30⟩, ⟨w.heap.size + 1, acells .u64 2 (fun _ => 0), 45⟩, ⟨bo, acells .u64 2 (fun _ => 0), 45⟩] := by rw [hbo]; exact M.alloc (acells .u64 2 (fun _ => 0)) 45
    go_upto_region 5 with (refine wpList_store_row rfl 45 _ _ rfl (W.heap.size) (acells .u64 2 (fun _ => 0)) rfl rfl 45 _ ((M.alloc (acells .u64 2 (fun _ => 0)) 45).at 2 rfl) (by rw [acells_size]; exact sizeC) (by simp only [acells_size]) (acells_one _ _ _) ?_)
    have M2 : Mem w ((W.alloc (.cells #[.int .u64 0, .int .u64 0] 45)).setRow bo (acells .u64 2 (fun _ => 0))) [⟨w.heap.size, fcells f, 30⟩, ⟨w.heap.size + 1, acells .u64 2 (fun _ => 0), 45⟩, ⟨bo, acells .u64 2 (sawSet f g s 0), 45⟩] := M1.row 2 rfl (acells .u64 2 (sawSet f g s 0))
    rw [← hbo]
    clear M M1 hbo
    generalize World.setRow _ _ _ = W2 at M2 ⊢
    have HM2 := Lib.hid M2
    clear M2
    go_wp2_with fail
    go_loopw [10] (fun i wr => ∃ k : Nat, k ≤ n ∧ i = .int .i64 k ∧ Hid (Mem w wr [⟨w.heap.size, fcells f, 30⟩, ⟨w.heap.size + 1, acells .u64 2 (fun _ => 0), 45⟩, ⟨bo, acells .u64 2 (sawSet f g s k), 45⟩])) (fun i _ => n - (intOf i).toNat)
    case atStart => exact ⟨0, by omega, rfl, HM2⟩
    case round =>
      clear HM2
      obtain ⟨k, hk, rfl, hM⟩ := hrel
      by_cases hlt : k < n
      · have hgk := hG.out k hlt
        obtain ⟨q, hq⟩ : ∃ q : Nat, g k = (q : Int) := ⟨(g k).toNat, by omega⟩
        have hq100 : q < 100 := by omega
        have ck := (HI.out.later hM.out.below) k hlt
        rw [Nat.zero_add] at ck
        have HCK : Hid (∀ w', Below w.heap.size w w' → w'.cell? ⟨b, 0 + k * 1, none⟩ = some (.int .i16 (g k))) := Lib.hid (fun w' hb => by have h := (HI.out.later hb) k hlt; rwa [show 0 + k * 1 = 0 + k by omega])
        have hM' := hM.out
        have eN : (g k).toNat = q := by rw [hq]; rfl
        have hstep : sawSet f g s (k + 1) = joinC .or (sawSet f g s k) (wantSet f (ringQ q s) 100) := by rw [sawSet, eN]
        have HST := Lib.hid hstep
        have HN1 := Lib.hid (saw_N100 f g s k)
        have hcv : IntKind.i64.wrap (g k) = (q : Int) := by rw [i16_i64 (by omega) (by omega), hq]
        clear hstep ck
        go_upto_region 8 with (fail)
        refine wp_region_rel_tail 9 (DL [dV (.agg (acells .u64 2 (sawSet f g s k))), dV (.slice (some ⟨b, 0, none⟩) n c), dV (.int .i64 (k : Int)), dV (.pointer (some ⟨b, 0 + k * 1, none⟩)), dV (.int .i16 (g k)), dV (.int .i64 (q : Int)), dV (.int .i64 s), dV (.agg (acells .u64 2 (wantSet f (ringQ q s) 100))), dV (.agg (acells .u64 2 (joinC .or (sawSet f g s k) (wantSet f (ringQ q s) 100))))]) (fun w' => Mem w w' [⟨w.heap.size, fcells f, 30⟩, ⟨w.heap.size + 1, acells .u64 2 (fun _ => 0), 45⟩, ⟨bo, acells .u64 2 (sawSet f g s k), 45⟩]) (by kernel_rfl) (by kernel_rfl) grows_mem
          (stays_DL (fun d hd => by
            simp only [List.mem_cons, List.mem_nil_iff, or_false] at hd
            rcases hd with rfl | rfl | rfl | rfl | rfl | rfl | rfl | rfl | rfl <;> exact stay_V)) hM'.drew ?_
        refine rel_load 45 _ rfl bo 0 rfl (acells .u64 2 (sawSet f g s k)) _ rfl rfl (fun w' hw' => (hw'.at 2 rfl).whole) Tryd.underlying45 rfl (by rw [acells_size]; exact sizeC) (fun _ => ?_)
        simp only [Act.put, List.setIfInBounds_toArray, List.set_cons_zero, List.set_cons_succ]
        refine rel_val (.slice (some ⟨b, 0, none⟩) n c) rfl rfl (fun _ _ => rfl) (fun _ => ?_)
        simp only [Act.put, List.setIfInBounds_toArray, List.set_cons_zero, List.set_cons_succ]
        refine rel_val (.int .i64 (k : Int)) rfl rfl (fun _ _ => rfl) (fun _ => ?_)
        simp only [Act.put, List.setIfInBounds_toArray, List.set_cons_zero, List.set_cons_succ]
        refine rel_indexB 32 24 _ _ rfl b 0 n c 1 k rfl rfl hlt Tryd.underlying32 rfl rfl rfl (fun _ => ?_)
        simp only [Act.put, List.setIfInBounds_toArray, List.set_cons_zero, List.set_cons_succ]
        refine rel_cell 24 _ rfl b (0 + k * 1) rfl (.int .i16 (g k)) rfl rfl (fun w' c => load_i16B _ _ _ w' c) (fun w' hw' => HCK.out w' hw'.below) (fun _ => ?_)
        simp only [Act.put, List.setIfInBounds_toArray, List.set_cons_zero, List.set_cons_succ]
        refine rel_val (.int .i64 (q : Int)) rfl rfl (fun _ _ => by rw [← hcv]; rfl) (fun _ => ?_)
        simp only [Act.put, List.setIfInBounds_toArray, List.set_cons_zero, List.set_cons_succ]
        refine rel_val (.int .i64 s) rfl rfl (fun _ _ => rfl) (fun _ => ?_)
        simp only [Act.put, List.setIfInBounds_toArray, List.set_cons_zero, List.set_cons_succ]
        refine rel_call (.agg (acells .u64 2 (wantSet f (ringQ q s) 100))) 50 #[.pointer (some ⟨w.heap.size, 0, none⟩), .int .i64 (q : Int), .int .i64 s] rfl rfl rfl rfl (enters_of Tryd.func50 (by kernel_rfl) rfl) (fun w' hw' => l01Ring_any f hf q hq100 s (by omega) (by omega) _ w' (hw'.at 0 rfl)) (fun _ => ?_)
        simp only [Act.put, List.setIfInBounds_toArray, List.set_cons_zero, List.set_cons_succ]
        refine rel_call (.agg (acells .u64 2 (joinC .or (sawSet f g s k) (wantSet f (ringQ q s) 100)))) 49 #[.agg (acells .u64 2 (sawSet f g s k)), .agg (acells .u64 2 (wantSet f (ringQ q s) 100))] rfl rfl rfl rfl (enters_of Tryd.func49 (by kernel_rfl) rfl) (fun w' _ => unionS _ _ HN1.out (want_N100 _ _ _ (Nat.le_refl _)) w') (fun _ => ?_)
        simp only [Act.put, List.setIfInBounds_toArray, List.set_cons_zero, List.set_cons_succ]
        refine rel_nil (fun W8 inv => ?_)
        have M9 := inv.cls
        clear inv hM'
        change wpList _ _ _ (_ :: []) _ _
        refine wpList_store_row rfl 45 _ _ rfl (bo) (acells .u64 2 (joinC .or (sawSet f g s k) (wantSet f (ringQ q s) 100))) rfl rfl 45 _ (M9.at 2 rfl) (by rw [acells_size]; exact sizeC) (by simp only [acells_size]) (acells_one _ _ _) ?_
        have M10 : Mem w (W8.setRow bo (acells .u64 2 (joinC .or (sawSet f g s k) (wantSet f (ringQ q s) 100)))) [⟨w.heap.size, fcells f, 30⟩, ⟨w.heap.size + 1, acells .u64 2 (fun _ => 0), 45⟩, ⟨bo, acells .u64 2 (sawSet f g s (k + 1)), 45⟩] := by rw [HST.out]; exact M9.row 2 rfl (acells .u64 2 (joinC .or (sawSet f g s k) (wantSet f (ringQ q s) 100)))
        clear M9
        generalize World.setRow _ _ _ = W9 at M10 ⊢
        have HM10 := Lib.hid M10
        clear M10
        go_wp2_with fail
        go_roundw
        case rel => exact ⟨k + 1, by omega, by go_num, HM10⟩
        case measure => simp [intOf]; omega
      · obtain rfl : k = n := by omega
        go_wp2_with (first
          | (refine wpList_load_part rfl 45 _ rfl (bo) 0 rfl (acells .u64 2 (sawSet f g s k)) _ (hM.out.at 2 rfl).whole Tryd.underlying45 rfl (by rw [acells_size]; exact sizeC) ?_)
          | (refine wpList_store_row rfl 45 _ _ rfl (w.heap.size + 1) (acells .u64 2 (sawSet f g s k)) rfl rfl 45 _ (hM.out.at 1 rfl) (by rw [acells_size]; exact sizeC) (by simp only [acells_size]) (acells_one _ _ _) ?_))
        have M2 := hM.out.row 1 rfl (acells .u64 2 (sawSet f g s k))
        exact bodyPost_ret (results_row_tmp rfl _ _ (w.heap.size + 1) 45 _ _ _ rfl (M2.at 1 rfl) Tryd.underlying45 rfl (by rw [acells_size]; exact sizeC)) rfl ⟨rfl, M2.below⟩
  · have hne : (c0 != 0) = true := by simpa using hz
    rw [if_neg hz]
    clear hc0 hz
    go_enter Tryd.func24, Tryd.ntmps24
    go_upto_region 1 with (fail)
    rw [zero2]
    obtain ⟨W, hW, M⟩ := open2 w (fcells f) 30 (acells .u64 2 (fun _ => 0)) 45
    rw [hW]; clear hW
    go_wp2_with (first
      | (go_at_call 41; refine (l05Asked_any f hf n hn g hg s true _ b c _ (M.at 0 rfl) (HI.out.later M.below)).mono ?_; rintro e w' ⟨rfl, rfl⟩; rw [HC.out])
      | (refine wpList_store_row rfl 45 _ _ rfl (w.heap.size + 1) (acells .u64 2 (fun _ => 0)) rfl rfl 45 _ (M.at 1 rfl) (by rw [acells_size]; exact sizeC) (by simp only [acells_size]) (acells_one _ _ _) ?_))
    have M2 := M.row 1 rfl (acells .u64 2 (fun _ => 0))
    exact bodyPost_ret (results_row_tmp rfl _ _ (w.heap.size + 1) 45 _ _ _ rfl (M2.at 1 rfl) Tryd.underlying45 rfl (by rw [acells_size]; exact sizeC)) rfl ⟨rfl, M2.below⟩
set_option maxRecDepth 100000 in
theorem seenBy_closure (n : Nat) (hn1 : 1 ≤ n) (hn2 : n ≤ 40) (g : Nat → Int) (hg : CellsG n g) (s : Int) (hs : 0 ≤ s ∧ s ≤ 50) (k : Nat) (hk : k < 100) (b c pb ps : Nat) (w : World) (I : InH w b 0 n g) (h1 : w.cell? ⟨pb, 0, none⟩ = some (.slice (some ⟨b, 0, none⟩) n c)) (h2 : w.cell? ⟨ps, 0, none⟩ = some (.int .i64 s)) :
    Calls Tryd.prog 76 #[.int .i64 k, .pointer (some ⟨pb, 0, none⟩), .pointer (some ⟨ps, 0, none⟩)] w fun e w' => e = .returned (.bool (sawQ n g s k)) ∧ Below w.heap.size w w' := by
  have HI := Lib.hid I
  have HG := Lib.hid hg
  clear I hg
  unfold sawQ
  obtain ⟨L, hL⟩ : ∃ L, (minL n g s k 1 n).length = L := ⟨_, rfl⟩
  have HL := Lib.hid hL
  have hL2 := minL_le n g s k 1 n
  rw [hL] at hL2 ⊢
  clear hL
  go_enter Tryd.func76, Tryd.ntmps76
  go_wp2_with (go_at_call 55; refine (minutesOf_any n hn1 hn2 g HG.out s hs k hk 1 (by omega) b c _ HI.out).mono ?_; rintro e W1 ⟨v, rfl, ho, hb⟩; obtain ⟨p, c1, rfl, _, _⟩ := Nown rfl ho; rw [HL.out]; clear ho)
  go_ret
  exact ⟨rfl, hb⟩
set_option maxRecDepth 100000 in
set_option maxHeartbeats 4000000 in
theorem seenBy_any (f : Fd) (hf : f.Wf) (hok : okF f = true) (n : Nat) (hn1 : 1 ≤ n) (hn2 : n ≤ 40) (g : Nat → Int) (hg : CellsG n g) (s : Int) (hs : 0 ≤ s ∧ s ≤ 50) (b c : Nat) (w : World) (I : InH w b 0 n g) :
    Calls Tryd.prog 52 #[.slice (some ⟨b, 0, none⟩) n c, .agg (fcells f), .int .i64 s] w fun e w' => e = .returned (.agg (acells .u64 2 (wantSet f (sawQ n g s) 100))) ∧ Below w.heap.size w w' := by
  have HI := Lib.hid I
  have HG := Lib.hid hg
  clear I hg
  go_enter Tryd.func52, Tryd.ntmps52
  go_upto_region 1 with (fail)
  rw [zero2]
  obtain ⟨W0, hW0, M0⟩ := open3 w (#[.slice (some ⟨b, 0, none⟩) n c]) 32 (fcells f) 30 (#[.int .i64 s]) 2
  have M : Mem w (W0.alloc (.cells (acells .u64 2 (fun _ => 0)) 45)) [⟨w.heap.size, #[.slice (some ⟨b, 0, none⟩) n c], 32⟩, ⟨w.heap.size + 1, fcells f, 30⟩, ⟨w.heap.size + 1 + 1, #[.int .i64 s], 2⟩, ⟨w.heap.size + 1 + 1 + 1, acells .u64 2 (fun _ => 0), 45⟩] := by
    have h := M0.alloc (acells .u64 2 (fun _ => 0)) 45
    have hs : W0.heap.size = w.heap.size + 1 + 1 + 1 := by rw [← hW0]; simp
    rw [hs] at h
    exact h
  rw [hW0]; clear hW0 M0
  generalize W0.alloc _ = W at M ⊢
  have HE : Hid ((fun w' => w'.cell? ⟨w.heap.size, 0, none⟩ = some (.slice (some ⟨b, 0, none⟩) n c) ∧ w'.cell? ⟨w.heap.size + 1 + 1, 0, none⟩ = some (.int .i64 s) ∧ InH w' b 0 n g) W) := Lib.hid ⟨(M.at 0 rfl).cell (i := 0) rfl, (M.at 2 rfl).cell (i := 0) rfl, HI.out.later M.below⟩
  go_wp2_with (first
    | (refine wpList_load_part rfl 30 _ rfl (w.heap.size + 1) 0 rfl (fcells f) _ (M.at 1 rfl).whole Tryd.underlying30 rfl (by rw [fcells_size]; exact sizeFd) ?_)
    | (go_at_call 75; refine (cellsWhere_any f hok 76 #[.pointer (some ⟨w.heap.size, 0, none⟩), .pointer (some ⟨w.heap.size + 1 + 1, 0, none⟩)] (sawQ n g s) (fun w' => w'.cell? ⟨w.heap.size, 0, none⟩ = some (.slice (some ⟨b, 0, none⟩) n c) ∧ w'.cell? ⟨w.heap.size + 1 + 1, 0, none⟩ = some (.int .i64 s) ∧ InH w' b 0 n g) (fun _ _ h hb => ⟨cell_later h.1 hb, cell_later h.2.1 hb, h.2.2.later hb⟩) (fun k w' hk h => seenBy_closure n hn1 hn2 g HG.out s hs k (isCell_lt hk) b c _ _ w' h.2.2 h.1 h.2.1) _ HE.out (enters_of Tryd.func76 (by kernel_rfl) rfl)).mono ?_; rintro e W5 ⟨rfl, hb5⟩; have M5 := M.call hb5; clear hb5)
    | (refine wpList_store_row rfl 45 _ _ rfl (w.heap.size + 1 + 1 + 1) (acells .u64 2 (wantSet f (sawQ n g s) 100)) rfl rfl 45 _ (M5.at 3 rfl) (by rw [acells_size]; exact sizeC) (by simp only [acells_size]) (acells_one _ _ _) ?_))
  have M6 := M5.row 3 rfl (acells .u64 2 (wantSet f (sawQ n g s) 100))
  exact bodyPost_ret (results_cell_row rfl _ _ (w.heap.size + 1 + 1 + 1) 45 _ _ _ rfl (M6.at 3 rfl) Tryd.underlying45 rfl (by rw [acells_size]; exact sizeC)) rfl ⟨rfl, M6.below⟩
set_option maxRecDepth 100000 in
set_option maxHeartbeats 4000000 in
theorem implSeenBy (f : Fd) (hf : f.Wf) (n : Nat) (hn : n ≤ 2 ^ 40) (g : Nat → Int) (hg : WfH n g) (s : Int) (b c : Nat) (A : Nat → Addr) (w : World) (I : InH w b 0 n g) (S0 : Sents w A) :
    Calls Tryd.prog 25 #[.agg (fcells f), .slice (some ⟨b, 0, none⟩) n c, .int .i64 s] w fun e w' => e = .returned (.tuple #[.agg (acells .u64 2 (seenSet f n g s)), .int .i64 (beatAsk f n g s true)]) ∧ Below w.heap.size w w' := by
  have S : Hid (Sents w A) := Lib.hid S0
  have HI := Lib.hid I
  clear S0 I
  have hif := isIfaceErr
  unfold seenSet
  obtain ⟨c0, hc0⟩ : ∃ y, beatAsk f n g s true = y := ⟨_, rfl⟩
  have hcs := beatAsk_cases f n g s true
  have HC : Hid (beatAsk f n g s (allTo 0 (fun i => isCell f ((fun _ => 0) i))) = c0) := Lib.hid hc0
  rw [hc0] at hcs ⊢
  by_cases hz : c0 = 0
  · subst hz
    obtain ⟨h1, hs, _⟩ := beatAsk_0 hc0
    obtain ⟨hok, n1, n2⟩ := okB_iff h1
    have hG := Lib.hid (CellsG.of (okB_ok h1))
    rw [if_pos rfl]
    clear h1 hc0 hcs
    go_enter Tryd.func25, Tryd.ntmps25
    go_upto_region 1 with (fail)
    rw [zero2]
    obtain ⟨W, hW, M⟩ := open2 w (fcells f) 30 (acells .u64 2 (fun _ => 0)) 45
    rw [hW]; clear hW
    have hnil : codeErr A 0 = .nilIface := rfl
    have ok0 : True := trivial
    have ok1 : True := trivial
    have ok2 : True := trivial
    have ok3 : True := trivial
    have ok4 : True := trivial
    go_wp2_with (first
      | (clear ok0; refine wpList_load_part rfl 30 _ rfl (w.heap.size) 0 rfl (fcells f) _ (M.at 0 rfl).whole Tryd.underlying30 rfl (by rw [fcells_size]; exact sizeFd) ?_)
      | (go_at_call 51; refine (checkWatching_any f hf n hn g hg s 0 (by omega) (fun _ => 0) (fun i hi => absurd hi (by omega)) b c none 0 A _ (HI.out.later M.below) (.inl rfl) (S.out.later M.below)).mono ?_; rintro e W2 ⟨rfl, hb⟩; rw [HC.out, hnil]; have M2 := M.call hb; clear hb)
      | (clear ok1; refine wpList_load_part rfl 30 _ rfl (w.heap.size) 0 rfl (fcells f) _ (M2.at 0 rfl).whole Tryd.underlying30 rfl (by rw [fcells_size]; exact sizeFd) ?_)
      | (go_at_call 52; refine (seenBy_any f hf hok n n1 n2 g hG.out s hs b c _ (HI.out.later M2.below)).mono ?_; rintro e W3 ⟨rfl, hb⟩; have M3 := M2.call hb; clear hb)
      | (refine wpList_store_row rfl 45 _ _ rfl (w.heap.size + 1) (acells .u64 2 (wantSet f (sawQ n g s) 100)) rfl rfl 45 _ (M3.at 1 rfl) (by rw [acells_size]; exact sizeC) (by simp only [acells_size]) (acells_one _ _ _) ?_))
    have M4 := M3.row 1 rfl (acells .u64 2 (wantSet f (sawQ n g s) 100))
    exact bodyPost_ret (results_row_tmp rfl _ _ (w.heap.size + 1) 45 _ _ _ rfl (M4.at 1 rfl) Tryd.underlying45 rfl (by rw [acells_size]; exact sizeC)) rfl ⟨rfl, M4.below⟩
  · rw [if_neg hz]
    have hce : codeErr A c0 = errVal (A c0.toNat) := by unfold codeErr; rw [if_neg hz]
    obtain ⟨q, hq1, hq2, rfl⟩ : ∃ q : Nat, 1 ≤ q ∧ q ≤ 2 ∧ c0 = (q : Int) := ⟨c0.toNat, by omega, by omega, by omega⟩
    rw [Int.toNat_natCast] at hce
    clear hc0 hcs hz
    rcases (show q = 1 ∨ q = 2 by omega) with rfl | rfl
    · go_enter Tryd.func25, Tryd.ntmps25
      go_upto_region 1 with (fail)
      rw [zero2]
      obtain ⟨W, hW, M⟩ := open2 w (fcells f) 30 (acells .u64 2 (fun _ => 0)) 45
      rw [hW]; clear hW
      go_wp2_with (first
        | (refine wpList_load_part rfl 30 _ rfl (w.heap.size) 0 rfl (fcells f) _ (M.at 0 rfl).whole Tryd.underlying30 rfl (by rw [fcells_size]; exact sizeFd) ?_)
        | (go_at_call 51; refine (checkWatching_any f hf n hn g hg s 0 (by omega) (fun _ => 0) (fun i hi => absurd hi (by omega)) b c none 0 A _ (HI.out.later M.below) (.inl rfl) (S.out.later M.below)).mono ?_; rintro e W2 ⟨rfl, hb⟩; rw [HC.out, hce]; have M2 := M.call hb; clear hb; have v2 := (S.out.later M2.below).v1)
        | (go_at_call 43; refine (codeOf_err A 1 (by omega) (by omega) _ (S.out.later M2.below)).mono ?_; rintro e W3 ⟨rfl, rfl⟩)
        | (refine wpList_store_row rfl 45 _ _ rfl (w.heap.size + 1) (acells .u64 2 (fun _ => 0)) rfl rfl 45 _ (M2.at 1 rfl) (by rw [acells_size]; exact sizeC) (by simp only [acells_size]) (acells_one _ _ _) ?_))
      have M4 := M2.row 1 rfl (acells .u64 2 (fun _ => 0))
      exact bodyPost_ret (results_row_tmp rfl _ _ (w.heap.size + 1) 45 _ _ _ rfl (M4.at 1 rfl) Tryd.underlying45 rfl (by rw [acells_size]; exact sizeC)) rfl ⟨rfl, M4.below⟩
    · go_enter Tryd.func25, Tryd.ntmps25
      go_upto_region 1 with (fail)
      rw [zero2]
      obtain ⟨W, hW, M⟩ := open2 w (fcells f) 30 (acells .u64 2 (fun _ => 0)) 45
      rw [hW]; clear hW
      go_wp2_with (first
        | (refine wpList_load_part rfl 30 _ rfl (w.heap.size) 0 rfl (fcells f) _ (M.at 0 rfl).whole Tryd.underlying30 rfl (by rw [fcells_size]; exact sizeFd) ?_)
        | (go_at_call 51; refine (checkWatching_any f hf n hn g hg s 0 (by omega) (fun _ => 0) (fun i hi => absurd hi (by omega)) b c none 0 A _ (HI.out.later M.below) (.inl rfl) (S.out.later M.below)).mono ?_; rintro e W2 ⟨rfl, hb⟩; rw [HC.out, hce]; have M2 := M.call hb; clear hb; have v2 := (S.out.later M2.below).v2)
        | (go_at_call 43; refine (codeOf_err A 2 (by omega) (by omega) _ (S.out.later M2.below)).mono ?_; rintro e W3 ⟨rfl, rfl⟩)
        | (refine wpList_store_row rfl 45 _ _ rfl (w.heap.size + 1) (acells .u64 2 (fun _ => 0)) rfl rfl 45 _ (M2.at 1 rfl) (by rw [acells_size]; exact sizeC) (by simp only [acells_size]) (acells_one _ _ _) ?_))
      have M4 := M2.row 1 rfl (acells .u64 2 (fun _ => 0))
      exact bodyPost_ret (results_row_tmp rfl _ _ (w.heap.size + 1) 45 _ _ _ rfl (M4.at 1 rfl) Tryd.underlying45 rfl (by rw [acells_size]; exact sizeC)) rfl ⟨rfl, M4.below⟩
end Go.Proofs.YtdjbaajcgipebaaDoor
