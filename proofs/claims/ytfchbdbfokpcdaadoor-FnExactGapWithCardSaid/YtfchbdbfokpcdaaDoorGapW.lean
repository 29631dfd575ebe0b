/-
  The gap of a cell: GapWith, GapOf: the model's, the program's.
-/
import Derived.Test.YtfchbdbfokpcdaaDoorGap
import Derived.Test.YtfchbdbfokpcdaaDoorWatch
namespace Go.Proofs.YtfchbdbfokpcdaaDoor
open Go Go.RowKit

def gapFine (f : Fd) (x W : Int) : Bool := isCell f x && inB W 1 8
def gapNat (n : Nat) (g : Nat → Int) (s x W : Int) : Nat := gmax n (seenB n g s x.toNat W.toNat) n
def gapCode (f : Fd) (n : Nat) (g : Nat → Int) (s x W : Int) : Int := if beatAsk f n g s (gapFine f x W) = 0 then (if gapNat n g s x W = 0 then 6 else 0) else beatAsk f n g s (gapFine f x W)
def gapVal (f : Fd) (n : Nat) (g : Nat → Int) (s x W : Int) : Int := if beatAsk f n g s (gapFine f x W) = 0 then (gapNat n g s x W : Int) else 0
theorem gap_bad {f : Fd} {n : Nat} {g : Nat → Int} {s x W c : Int} (h : beatAsk f n g s (gapFine f x W) = c) (hc : c ≠ 0) : gapCode f n g s x W = c ∧ gapVal f n g s x W = 0 := by
  unfold gapCode gapVal; rw [h, if_neg hc, if_neg hc]; exact ⟨rfl, rfl⟩
theorem gap_ok {f : Fd} {n : Nat} {g : Nat → Int} {s x W : Int} {G : Nat} (h : beatAsk f n g s (gapFine f x W) = 0) (hG : gapNat n g s x W = G) : gapCode f n g s x W = (if G = 0 then 6 else 0) ∧ gapVal f n g s x W = (G : Int) := by
  unfold gapCode gapVal; rw [h, if_pos rfl, if_pos rfl, hG]; exact ⟨rfl, rfl⟩
theorem gapFine_iff {f : Fd} {x W : Int} (h : gapFine f x W = true) : isCell f x = true ∧ 1 ≤ W ∧ W ≤ 8 := by
  unfold gapFine at h; rw [Bool.and_eq_true] at h; exact ⟨h.1, inB_iff.1 h.2⟩
set_option maxRecDepth 100000 in
set_option maxHeartbeats 4000000 in
theorem specGapWith (f : Fd) (hf : f.Wf) (n : Nat) (hn : n ≤ 2 ^ 40) (g : Nat → Int) (hg : WfH n g) (s x W : Int) (b c : Nat) (w : World) (I : InH w b 0 n g) :
    Calls Tryd.prog 11 #[.agg (fcells f), .slice (some ⟨b, 0, none⟩) n c, .int .i64 s, .int .i64 x, .int .i64 W] w fun e w' => e = .returned (.tuple #[.int .i64 (gapVal f n g s x W), .int .i64 (gapCode f n g s x W)]) ∧ Below w.heap.size w w' := by
  have HI := Lib.hid I
  clear I
  obtain ⟨a1, ha1⟩ : ∃ y, isCell f x = y := ⟨_, rfl⟩
  obtain ⟨a2, ha2⟩ : ∃ y, inB W 1 8 = y := ⟨_, rfl⟩
  have A1 := Lib.hid ha1
  have A2 := Lib.hid ha2
  have hfine : gapFine f x W = (a1 && a2) := by unfold gapFine; rw [ha1, ha2]
  have HF := Lib.hid hfine
  obtain ⟨c0, hc0⟩ : ∃ y, beatAsk f n g s (a1 && a2) = y := ⟨_, rfl⟩
  have HC := Lib.hid hc0
  have HCF : Hid (beatAsk f n g s (gapFine f x W) = c0) := Lib.hid (by rw [hfine]; exact hc0)
  clear ha1 ha2 hfine hc0
  by_cases hz : c0 = 0
  · subst hz
    obtain ⟨h1, h2, h3⟩ := beatAsk_0 HCF.out
    obtain ⟨_, n1, n2⟩ := okB_iff h1
    obtain ⟨x1, W1, W2⟩ := gapFine_iff h3
    obtain ⟨k, hk, rfl⟩ := cell_nat x1
    obtain ⟨v, rfl⟩ : ∃ v : Nat, W = (v : Int) := ⟨W.toNat, by omega⟩
    have hG := Lib.hid (CellsG.of (okB_ok h1))
    obtain ⟨G, hGe⟩ : ∃ G, gmax n (seenB n g s k v) n = G := ⟨_, rfl⟩
    have HGE := Lib.hid hGe
    have hres := Lib.hid (gap_ok HCF.out (show gapNat n g s (k : Int) (v : Int) = G by unfold gapNat; rw [Int.toNat_natCast, Int.toNat_natCast]; exact hGe))
    have e1 : a1 = true := by rw [← A1.out]; exact x1
    have e2 : a2 = true := by rw [← A2.out]; exact inB_iff.2 ⟨W1, W2⟩
    subst e1
    subst e2
    clear h1 h3 x1 hGe
    by_cases hG0 : G = 0
    · subst hG0
      go_enter Tryd.func11, Tryd.ntmps11
      go_upto_region 1 with (fail)
      obtain ⟨Wo, hWo, M⟩ := open1 w (fcells f) 31
      rw [hWo]; clear hWo
      go_wp2_with (first
        | (go_at_call 18; refine (l01Is_any f _ _ _ hf.W hf.H (M.at 0 rfl)).mono ?_; rintro e w' ⟨rfl, rfl⟩; rw [A1.out])
        | (go_at_call 19; refine (l00In_any _ _ _ _).mono ?_; rintro e w' ⟨rfl, rfl⟩; rw [A2.out])
        | (go_at_call 20; refine (l05Asked_any f hf n hn g hg s _ _ b c _ (M.at 0 rfl) (HI.out.later M.below)).mono ?_; rintro e w' ⟨rfl, rfl⟩; rw [show beatAsk f n g s true = 0 from HC.out])
        | (go_at_call 21; refine (l05Gap_any n n1 n2 g hG.out s h2 k hk v (by omega) b c _ (HI.out.later M.below)).mono ?_; rintro e W3 ⟨rfl, hb⟩; rw [HGE.out]; have M3 := M.call hb; clear hb))
      go_ret2
      exact ⟨by rw [hres.out.1, hres.out.2]; rfl, M3.below⟩
    · have t1 : ((G : Int) == 0) = false := by simpa using hG0
      go_enter Tryd.func11, Tryd.ntmps11
      go_upto_region 1 with (fail)
      obtain ⟨Wo, hWo, M⟩ := open1 w (fcells f) 31
      rw [hWo]; clear hWo
      go_wp2_with (first
        | (go_at_call 18; refine (l01Is_any f _ _ _ hf.W hf.H (M.at 0 rfl)).mono ?_; rintro e w' ⟨rfl, rfl⟩; rw [A1.out])
        | (go_at_call 19; refine (l00In_any _ _ _ _).mono ?_; rintro e w' ⟨rfl, rfl⟩; rw [A2.out])
        | (go_at_call 20; refine (l05Asked_any f hf n hn g hg s _ _ b c _ (M.at 0 rfl) (HI.out.later M.below)).mono ?_; rintro e w' ⟨rfl, rfl⟩; rw [show beatAsk f n g s true = 0 from HC.out])
        | (go_at_call 21; refine (l05Gap_any n n1 n2 g hG.out s h2 k hk v (by omega) b c _ (HI.out.later M.below)).mono ?_; rintro e W3 ⟨rfl, hb⟩; rw [HGE.out]; have M3 := M.call hb; clear hb))
      go_ret2
      exact ⟨by rw [hres.out.1, hres.out.2, if_neg hG0]; rfl, M3.below⟩
  · have hne : (c0 != 0) = true := by simpa using hz
    have hres := Lib.hid (gap_bad HCF.out hz)
    cases a1 with
    | false =>
      have HC' : Hid (beatAsk f n g s false = c0) := Lib.hid HC.out
      go_enter Tryd.func11, Tryd.ntmps11
      go_upto_region 1 with (fail)
      obtain ⟨Wo, hWo, M⟩ := open1 w (fcells f) 31
      rw [hWo]; clear hWo
      go_wp2_with (first
        | (go_at_call 18; refine (l01Is_any f _ _ _ hf.W hf.H (M.at 0 rfl)).mono ?_; rintro e w' ⟨rfl, rfl⟩; rw [A1.out])
        | (go_at_call 20; refine (l05Asked_any f hf n hn g hg s _ _ b c _ (M.at 0 rfl) (HI.out.later M.below)).mono ?_; rintro e w' ⟨rfl, rfl⟩; rw [HC'.out]))
      go_ret2
      exact ⟨by rw [hres.out.1, hres.out.2]; rfl, M.below⟩
    | true =>
      have HC' : Hid (beatAsk f n g s a2 = c0) := Lib.hid HC.out
      go_enter Tryd.func11, Tryd.ntmps11
      go_upto_region 1 with (fail)
      obtain ⟨Wo, hWo, M⟩ := open1 w (fcells f) 31
      rw [hWo]; clear hWo
      go_wp2_with (first
        | (go_at_call 18; refine (l01Is_any f _ _ _ hf.W hf.H (M.at 0 rfl)).mono ?_; rintro e w' ⟨rfl, rfl⟩; rw [A1.out])
        | (go_at_call 19; refine (l00In_any _ _ _ _).mono ?_; rintro e w' ⟨rfl, rfl⟩; rw [A2.out])
        | (go_at_call 20; refine (l05Asked_any f hf n hn g hg s _ _ b c _ (M.at 0 rfl) (HI.out.later M.below)).mono ?_; rintro e w' ⟨rfl, rfl⟩; rw [HC'.out]))
      go_ret2
      exact ⟨by rw [hres.out.1, hres.out.2]; rfl, M.below⟩
theorem one_cell (f : Fd) (x : Int) : allTo 1 (fun _ => isCell f x) = isCell f x := by simp [allTo]
theorem inO_one {w : World} {bb : Nat} {x : Int} {t : TypeId} (hB : Blk w bb #[.int .i64 x] t) : InO w (some ⟨bb, 0, none⟩) 1 (fun _ => x) :=
  .inr ⟨bb, rfl, fun i hi => by obtain rfl : i = 0 := by omega
                                exact hB.cell (i := 0) rfl⟩
set_option maxRecDepth 100000 in
set_option maxHeartbeats 4000000 in
theorem implGapWith (f : Fd) (hf : f.Wf) (n : Nat) (hn : n ≤ 2 ^ 40) (g : Nat → Int) (hg : WfH n g) (s x W : Int) (hx : -9223372036854775808 ≤ x ∧ x ≤ 9223372036854775807) (b c : Nat) (A : Nat → Addr) (w : World) (I : InH w b 0 n g) (S0 : Sents w A) :
    Calls Tryd.prog 12 #[.agg (fcells f), .slice (some ⟨b, 0, none⟩) n c, .int .i64 s, .int .i64 x, .int .i64 W] w fun e w' => e = .returned (.tuple #[.int .i64 (gapVal f n g s x W), .int .i64 (gapCode f n g s x W)]) ∧ Below w.heap.size w w' := by
  have S : Hid (Sents w A) := Lib.hid S0
  have HI := Lib.hid I
  clear S0 I
  have hif := isIfaceErr
  have hx2 : Hid (Wf64 1 (fun _ => x)) := Lib.hid (fun _ _ => hx)
  obtain ⟨c0, hc0⟩ : ∃ y, beatAsk f n g s (isCell f x) = y := ⟨_, rfl⟩
  have HC := Lib.hid hc0
  have HCK : Hid (codeErr A (beatAsk f n g s (allTo 1 (fun _ => isCell f x))) = codeErr A c0) := Lib.hid (by rw [one_cell, hc0])
  have hcase := beatAsk_cases f n g s (isCell f x)
  rw [hc0] at hcase
  clear hc0
  rcases hcase with rfl | hbad
  · obtain ⟨h1, h2, x1⟩ := beatAsk_0 HC.out
    obtain ⟨_, n1, n2⟩ := okB_iff h1
    have HE : Hid (codeErr A 0 = .nilIface) := Lib.hid rfl
    obtain ⟨a2, ha2⟩ : ∃ y, inB W 1 8 = y := ⟨_, rfl⟩
    have A2 := Lib.hid ha2
    cases a2 with
    | false =>
      have hres := Lib.hid (gap_bad (c := 2) (show beatAsk f n g s (gapFine f x W) = 2 from beatAsk_bad h1 (by unfold gapFine; rw [ha2, Bool.and_false, Bool.and_false])) (by decide))
      clear h1 x1 ha2
      go_enter Tryd.func12, Tryd.ntmps12
      go_upto_region 1 with (fail)
      obtain ⟨Wo, hWo, M⟩ := open1 w (fcells f) 31
      rw [hWo]; clear hWo
      go_wp2_with (first
        | (refine wpList_load_part rfl 31 _ rfl (w.heap.size) 0 rfl (fcells f) _ (M.at 0 rfl).whole Tryd.underlying31 rfl (by rw [fcells_size]; exact sizeFd) ?_)
        | (go_at_call 22; refine (checkWatching_any f hf n hn g hg s 1 (by omega) (fun _ => x) hx2.out b c _ _ A _ (HI.out.later (M.alloc _ _).below) (inO_one (Blk.new _ _ _)) (S.out.later (M.alloc _ _).below)).mono ?_; rintro e W2 ⟨rfl, hb⟩; rw [HCK.out, HE.out]; have M2 := (M.alloc _ _).call hb; have v2 := (S.out.later M2.below).v2; clear hb)
        | (go_at_call 24; refine (isWatchers_any _ _).mono ?_; rintro e w' ⟨rfl, rfl⟩; rw [A2.out])
        | (go_at_call 23; refine (codeOf_err A 2 (by omega) (by omega) _ (S.out.later M2.below)).mono ?_; rintro e W3 ⟨rfl, rfl⟩))
      go_ret2
      exact ⟨by rw [hres.out.1, hres.out.2]; rfl, M2.below⟩
    | true =>
      have W1 := inB_iff.1 ha2
      have hfz : beatAsk f n g s (gapFine f x W) = 0 := by unfold gapFine; rw [x1, ha2]; rw [x1] at HC; exact HC.out
      obtain ⟨k, hk, rfl⟩ := cell_nat x1
      obtain ⟨v, rfl⟩ : ∃ v : Nat, W = (v : Int) := ⟨W.toNat, by omega⟩
      have hG := Lib.hid (CellsG.of (okB_ok h1))
      obtain ⟨G, hGe⟩ : ∃ G, gmax n (seenB n g s k v) n = G := ⟨_, rfl⟩
      have HGE := Lib.hid hGe
      have hres := Lib.hid (gap_ok hfz (show gapNat n g s (k : Int) (v : Int) = G by unfold gapNat; rw [Int.toNat_natCast, Int.toNat_natCast]; exact hGe))
      clear h1 x1 ha2 hGe hfz
      by_cases hG0 : G = 0
      · subst hG0
        go_enter Tryd.func12, Tryd.ntmps12
        go_upto_region 1 with (fail)
        obtain ⟨Wo, hWo, M⟩ := open1 w (fcells f) 31
        rw [hWo]; clear hWo
        go_wp2_with (first
          | (refine wpList_load_part rfl 31 _ rfl (w.heap.size) 0 rfl (fcells f) _ (M.at 0 rfl).whole Tryd.underlying31 rfl (by rw [fcells_size]; exact sizeFd) ?_)
          | (go_at_call 22; refine (checkWatching_any f hf n hn g hg s 1 (by omega) (fun _ => (k : Int)) hx2.out b c _ _ A _ (HI.out.later (M.alloc _ _).below) (inO_one (Blk.new _ _ _)) (S.out.later (M.alloc _ _).below)).mono ?_; rintro e W2 ⟨rfl, hb⟩; rw [HCK.out, HE.out]; have M2 := (M.alloc _ _).call hb; clear hb)
          | (go_at_call 24; refine (isWatchers_any _ _).mono ?_; rintro e w' ⟨rfl, rfl⟩; rw [A2.out])
          | (go_at_call 25; refine (gapOf_any n n1 n2 g hG.out s h2 k hk v (by omega) b c _ (HI.out.later M2.below)).mono ?_; rintro e W3 ⟨rfl, hb⟩; rw [HGE.out]; have M3 := M2.call hb; have v6 := (S.out.later M3.below).v6; clear hb)
          | (go_at_call 23; refine (codeOf_err A 6 (by omega) (by omega) _ (S.out.later M3.below)).mono ?_; rintro e W4 ⟨rfl, rfl⟩))
        go_ret2
        exact ⟨by rw [hres.out.1, hres.out.2]; rfl, M3.below⟩
      · have t1 : ((G : Int) == 0) = false := by simpa using hG0
        go_enter Tryd.func12, Tryd.ntmps12
        go_upto_region 1 with (fail)
        obtain ⟨Wo, hWo, M⟩ := open1 w (fcells f) 31
        rw [hWo]; clear hWo
        go_wp2_with (first
          | (refine wpList_load_part rfl 31 _ rfl (w.heap.size) 0 rfl (fcells f) _ (M.at 0 rfl).whole Tryd.underlying31 rfl (by rw [fcells_size]; exact sizeFd) ?_)
          | (go_at_call 22; refine (checkWatching_any f hf n hn g hg s 1 (by omega) (fun _ => (k : Int)) hx2.out b c _ _ A _ (HI.out.later (M.alloc _ _).below) (inO_one (Blk.new _ _ _)) (S.out.later (M.alloc _ _).below)).mono ?_; rintro e W2 ⟨rfl, hb⟩; rw [HCK.out, HE.out]; have M2 := (M.alloc _ _).call hb; clear hb)
          | (go_at_call 24; refine (isWatchers_any _ _).mono ?_; rintro e w' ⟨rfl, rfl⟩; rw [A2.out])
          | (go_at_call 25; refine (gapOf_any n n1 n2 g hG.out s h2 k hk v (by omega) b c _ (HI.out.later M2.below)).mono ?_; rintro e W3 ⟨rfl, hb⟩; rw [HGE.out]; have M3 := M2.call hb; clear hb))
        go_ret2
        exact ⟨by rw [hres.out.1, hres.out.2, if_neg hG0]; rfl, M3.below⟩
  · obtain ⟨q, rfl, q1, q2⟩ : ∃ q : Nat, c0 = (q : Int) ∧ 1 ≤ q ∧ q ≤ 8 := by
      rcases hbad with rfl | rfl
      · exact ⟨1, rfl, by omega, by omega⟩
      · exact ⟨2, rfl, by omega, by omega⟩
    have HE : Hid (codeErr A (q : Int) = errVal (A q)) := Lib.hid (by unfold codeErr; rw [if_neg (by omega), Int.toNat_natCast])
    have hfz : beatAsk f n g s (gapFine f x W) = (q : Int) := by
      have h := HC.out
      cases e1 : isCell f x with
      | false => rw [e1] at h; unfold gapFine; rw [e1]; exact h
      | true =>
        rw [e1] at h
        cases e2 : okB f n g with
        | false => rw [beatAsk_no e2] at h ⊢; exact h
        | true =>
          cases e3 : inB s 0 50 with
          | true => rw [beatAsk_ok e2 (by rw [e3]; rfl)] at h; omega
          | false =>
            rw [beatAsk_bad e2 (by rw [e3]; rfl)] at h
            rw [beatAsk_bad e2 (by rw [e3]; rfl)]; exact h
    have hres := Lib.hid (gap_bad hfz (by omega))
    clear hbad hfz
    go_enter Tryd.func12, Tryd.ntmps12
    go_upto_region 1 with (fail)
    obtain ⟨Wo, hWo, M⟩ := open1 w (fcells f) 31
    rw [hWo]; clear hWo
    go_wp2_with (first
      | (refine wpList_load_part rfl 31 _ rfl (w.heap.size) 0 rfl (fcells f) _ (M.at 0 rfl).whole Tryd.underlying31 rfl (by rw [fcells_size]; exact sizeFd) ?_)
      | (go_at_call 22; refine (checkWatching_any f hf n hn g hg s 1 (by omega) (fun _ => x) hx2.out b c _ _ A _ (HI.out.later (M.alloc _ _).below) (inO_one (Blk.new _ _ _)) (S.out.later (M.alloc _ _).below)).mono ?_; rintro e W2 ⟨rfl, hb⟩; rw [HCK.out, HE.out]; have M2 := (M.alloc _ _).call hb; clear hb)
      | (go_at_call 23; refine (codeOf_err A q q1 q2 _ (S.out.later M2.below)).mono ?_; rintro e W3 ⟨rfl, rfl⟩))
    go_ret2
    exact ⟨by rw [hres.out.1, hres.out.2]; rfl, M2.below⟩
theorem specGapOf (f : Fd) (hf : f.Wf) (n : Nat) (hn : n ≤ 2 ^ 40) (g : Nat → Int) (hg : WfH n g) (s x : Int) (b c : Nat) (w : World) (I : InH w b 0 n g) :
    Calls Tryd.prog 6 #[.agg (fcells f), .slice (some ⟨b, 0, none⟩) n c, .int .i64 s, .int .i64 x] w fun e w' => e = .returned (.tuple #[.int .i64 (gapVal f n g s x 1), .int .i64 (gapCode f n g s x 1)]) ∧ Below w.heap.size w w' := by
  go_enter Tryd.func6, Tryd.ntmps6
  go_upto_region 1 with (fail)
  obtain ⟨Wo, hWo, M⟩ := open1 w (fcells f) 31
  rw [hWo]; clear hWo
  obtain ⟨y, hy⟩ : ∃ y, gapVal f n g s x 1 = y := ⟨_, rfl⟩
  obtain ⟨z, hz⟩ : ∃ z, gapCode f n g s x 1 = z := ⟨_, rfl⟩
  have HY := Lib.hid hy
  have HZ := Lib.hid hz
  clear hy hz
  go_wp2_with (first
    | (refine wpList_load_part rfl 31 _ rfl (w.heap.size) 0 rfl (fcells f) _ (M.at 0 rfl).whole Tryd.underlying31 rfl (by rw [fcells_size]; exact sizeFd) ?_)
    | (go_at_call 11; refine (specGapWith f hf n hn g hg s x 1 b c _ (I.later M.below)).mono ?_; rintro e W2 ⟨rfl, hb⟩; rw [HY.out, HZ.out]; have M2 := M.call hb; clear hb))
  go_ret2
  exact ⟨by rw [HY.out, HZ.out]; rfl, M2.below⟩
theorem implGapOf (f : Fd) (hf : f.Wf) (n : Nat) (hn : n ≤ 2 ^ 40) (g : Nat → Int) (hg : WfH n g) (s x : Int) (hx : -9223372036854775808 ≤ x ∧ x ≤ 9223372036854775807) (b c : Nat) (A : Nat → Addr) (w : World) (I : InH w b 0 n g) (S0 : Sents w A) :
    Calls Tryd.prog 9 #[.agg (fcells f), .slice (some ⟨b, 0, none⟩) n c, .int .i64 s, .int .i64 x] w fun e w' => e = .returned (.tuple #[.int .i64 (gapVal f n g s x 1), .int .i64 (gapCode f n g s x 1)]) ∧ Below w.heap.size w w' := by
  have S : Hid (Sents w A) := Lib.hid S0
  clear S0
  go_enter Tryd.func9, Tryd.ntmps9
  go_upto_region 1 with (fail)
  obtain ⟨Wo, hWo, M⟩ := open1 w (fcells f) 31
  rw [hWo]; clear hWo
  obtain ⟨y, hy⟩ : ∃ y, gapVal f n g s x 1 = y := ⟨_, rfl⟩
  obtain ⟨z, hz⟩ : ∃ z, gapCode f n g s x 1 = z := ⟨_, rfl⟩
  have HY := Lib.hid hy
  have HZ := Lib.hid hz
  clear hy hz
  go_wp2_with (first
    | (refine wpList_load_part rfl 31 _ rfl (w.heap.size) 0 rfl (fcells f) _ (M.at 0 rfl).whole Tryd.underlying31 rfl (by rw [fcells_size]; exact sizeFd) ?_)
    | (go_at_call 12; refine (implGapWith f hf n hn g hg s x 1 hx b c A _ (I.later M.below) (S.out.later M.below)).mono ?_; rintro e W2 ⟨rfl, hb⟩; rw [HY.out, HZ.out]; have M2 := M.call hb; clear hb))
  go_ret2
  exact ⟨by rw [HY.out, HZ.out]; rfl, M2.below⟩
end Go.Proofs.YtfchbdbfokpcdaaDoor
