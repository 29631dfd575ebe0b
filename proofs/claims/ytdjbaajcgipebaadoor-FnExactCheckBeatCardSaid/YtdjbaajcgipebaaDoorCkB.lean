/-
  CheckBeat: the model's, the program's.
-/
import Derived.Test.YtdjbaajcgipebaaDoorSbyC
import Derived.Test.YtdjbaajcgipebaaDoorGap
namespace Go.Proofs.YtdjbaajcgipebaaDoor
open Go Go.RowKit

theorem allTo_add {p : Nat → Bool} (k : Nat) : allTo (k + 1) p = (allTo k p && p k) := by
  rw [Bool.eq_iff_iff, Bool.and_eq_true, allTo_iff, allTo_iff]
  constructor
  · intro h; exact ⟨fun i hi => h i (by omega), h k (by omega)⟩
  · rintro ⟨h1, h2⟩ i hi
    by_cases e : i = k
    · rw [e]; exact h2
    · exact h1 i (by omega)
theorem stepD_ge {n : Nat} {S : Nat → Bool} {k : Nat} : ∀ (fu m : Nat), m ≤ stepD n S k fu m
  | 0, m => Nat.le_refl _
  | fu + 1, m => by
    rw [stepD]; split
    · exact Nat.le_refl _
    · have := stepD_ge (n := n) (S := S) (k := k) fu (m + 1); omega
theorem gap_saw {n : Nat} {g : Nat → Int} {s : Int} {c : Nat} (h : sawQ n g s c = true) : ¬ gmax n (seenB n g s c 1) n = 0 := by
  obtain ⟨t, ht, h1⟩ := sawQ_iff.1 h
  have h2 : seenB n g s c 1 t = true := by rw [seenB_one ht]; exact decide_eq_true h1
  have h3 := gmax_ge (n := n) h2 ht
  have h4 : 1 ≤ dOf n (seenB n g s c 1) t := stepD_ge n 1
  omega
theorem gap_not {n : Nat} {g : Nat → Int} {s : Int} {c : Nat} (h : sawQ n g s c = false) : gmax n (seenB n g s c 1) n = 0 :=
  gmax_none (fun p hp => by
    cases e : seenB n g s c 1 p with
    | false => rfl
    | true =>
      rw [seenB_one hp, decide_eq_true_eq] at e
      rw [sawQ_iff.2 ⟨p, hp, e⟩] at h
      cases h)
def ckFine (f : Fd) (m : Nat) (h : Nat → Int) : Bool := allTo m (fun i => isCell f (h i))
def ckCode (f : Fd) (n : Nat) (g : Nat → Int) (s : Int) (m : Nat) (h : Nat → Int) : Int := beatAsk f n g s (ckFine f m h)
def ckVal (f : Fd) (n : Nat) (g : Nat → Int) (s : Int) (m : Nat) (h : Nat → Int) : Bool := decide (ckCode f n g s m h = 0) && allTo m (fun i => sawQ n g s (h i).toNat)
set_option maxRecDepth 100000 in
set_option maxHeartbeats 8000000 in
theorem specCheckBeat (f : Fd) (hf : f.Wf) (n : Nat) (hn : n ≤ 2 ^ 40) (g : Nat → Int) (hg : WfH n g) (s : Int) (m : Nat) (hm : m ≤ 2 ^ 40) (h : Nat → Int) (b c b2 c2 : Nat) (w : World) (I : InH w b 0 n g) (I2 : InI w b2 0 m h) :
    Calls Tryd.prog 34 #[.agg (fcells f), .slice (some ⟨b, 0, none⟩) n c, .int .i64 s, .slice (some ⟨b2, 0, none⟩) m c2] w fun e w' => e = .returned (.tuple #[.bool (ckVal f n g s m h), .int .i64 (ckCode f n g s m h)]) ∧ Below w.heap.size w w' := by
  have HI := Lib.hid I
  have HI2 := Lib.hid I2
  clear I I2
  obtain ⟨c0, hc0⟩ : ∃ y, ckCode f n g s m h = y := ⟨_, rfl⟩
  have HC := Lib.hid hc0
  obtain ⟨v0, hv0⟩ : ∃ y, ckVal f n g s m h = y := ⟨_, rfl⟩
  have HV := Lib.hid hv0
  rw [hc0, hv0]
  clear hv0
  go_enter Tryd.func34, Tryd.ntmps34
  go_upto_region 1 with (fail)
  obtain ⟨W, hW, M⟩ := open1 w (fcells f) 30
  rw [hW]; clear hW
  go_wp2_with fail
  go_loop [10, 11] (fun v i => ∃ k : Nat, ∃ q : Bool, k ≤ m ∧ v = .bool q ∧ i = .int .i64 k ∧ Hid (q = ckFine f k h)) (fun _ i => m - (intOf i).toNat)
  case atStart => exact ⟨0, _, by omega, rfl, rfl, Lib.hid (allTo_iff.2 (fun i hi => absurd hi (by omega))).symm⟩
  case round =>
    clear hc0
    obtain ⟨k, q, hk, rfl, rfl, hq⟩ := hrel
    by_cases hlt : k < m
    · have d0 := (HI2.out.later M.below) k hlt
      rw [Nat.zero_add] at d0
      obtain ⟨p, hp⟩ : ∃ p, isCell f (h k) = p := ⟨_, rfl⟩
      have HP := Lib.hid hp
      clear hp
      have hs : Hid (ckFine f (k + 1) h = (q && p)) := Lib.hid (by unfold ckFine; rw [allTo_add, HP.out, hq.out]; rfl)
      cases q with
      | true =>
        go_wp2_with (go_at_call 53; refine (l01Is_any f _ _ _ hf.W hf.H (M.at 0 rfl)).mono ?_; rintro e w' ⟨rfl, rfl⟩; rw [HP.out])
        go_round
        case rel => exact ⟨k + 1, _, by omega, rfl, by go_num, Lib.hid (by rw [hs.out]; rfl)⟩
        case measure => simp [intOf]; omega
      | false =>
        go_wp2_with fail
        go_round
        case rel => exact ⟨k + 1, _, by omega, rfl, by go_num, Lib.hid (by rw [hs.out]; rfl)⟩
        case measure => simp [intOf]; omega
    · obtain rfl : k = m := by omega
      have HC2 : Hid (beatAsk f n g s q = c0) := Lib.hid (by rw [hq.out]; exact HC.out)
      have hc0 := HC2.out
      by_cases hz : c0 = 0
      · subst hz
        obtain ⟨h1, hss, h4⟩ := beatAsk_0 hc0
        obtain ⟨_, n1, n2⟩ := okB_iff h1
        have HG := Lib.hid (CellsG.of (okB_ok h1))
        have HA : Hid (∀ i, i < k → isCell f (h i) = true) := Lib.hid (allTo_iff.1 (by rw [← h4, hq.out]; rfl))
        have HVV : Hid (ckVal f n g s k h = allTo k (fun i => sawQ n g s (h i).toNat)) := Lib.hid (by unfold ckVal; rw [HC.out]; rfl)
        clear h1 h4 hc0
        go_wp2_with (go_at_call 41; refine (l05Asked_any f hf n hn g hg s q _ b c _ (M.at 0 rfl) (HI.out.later M.below)).mono ?_; rintro e w' ⟨rfl, rfl⟩; rw [HC2.out])
        go_loopw [13] (fun i wr => ∃ j : Nat, j ≤ k ∧ i = .int .i64 j ∧ Hid (Below w.heap.size w wr) ∧ Hid (∀ i, i < j → sawQ n g s (h i).toNat = true)) (fun i _ => k - (intOf i).toNat)
        case atStart => exact ⟨0, by omega, rfl, Lib.hid M.below, Lib.hid (fun i hi => absurd hi (by omega))⟩
        case round =>
          obtain ⟨j, hj, rfl, hB, hall⟩ := hrel
          by_cases hlt2 : j < k
          · have d0 := (HI2.out.later hB.out) j hlt2
            obtain ⟨x, hx, hxe⟩ := cell_nat (HA.out j hlt2)
            rw [Nat.zero_add, hxe] at d0
            have hxt : (h j).toNat = x := by rw [hxe]; rfl
            cases hq2 : sawQ n g s x with
            | true =>
              have hne := gap_saw hq2
              obtain ⟨G, hG⟩ : ∃ G, gmax n (seenB n g s x 1) n = G := ⟨_, rfl⟩
              have HGG := Lib.hid hG
              rw [hG] at hne
              have h2 : Hid (∀ i, i < j + 1 → sawQ n g s (h i).toNat = true) := Lib.hid (fun i hi => by
                by_cases e : i = j
                · rw [e, hxt]; exact hq2
                · exact hall.out i (by omega))
              have hd : ((G : Int) == 0) = false := by simp; omega
              clear hG hxe hxt hq2
              go_wp2_with (go_at_call 57; refine (l05Gap_any n n1 n2 g HG.out s hss x hx 1 (by omega) b c _ (HI.out.later hB.out)).mono ?_; rintro e W2 ⟨rfl, hb⟩; rw [HGG.out]; have HB2 := Lib.hid (hB.out.trans (hb.mono hB.out.size)); clear hb)
              go_roundw
              case rel => exact ⟨j + 1, by omega, by go_num, HB2, h2⟩
              case measure => simp [intOf]; omega
            | false =>
              have HGG := Lib.hid (gap_not hq2)
              have hr : Hid (v0 = false) := Lib.hid (by rw [← HV.out, HVV.out]; exact allTo_false hlt2 (by show sawQ n g s (h j).toNat = false; rw [hxt]; exact hq2))
              clear hxe hxt hq2
              go_wp2_with (go_at_call 57; refine (l05Gap_any n n1 n2 g HG.out s hss x hx 1 (by omega) b c _ (HI.out.later hB.out)).mono ?_; rintro e W2 ⟨rfl, hb⟩; rw [HGG.out]; have HB2 := Lib.hid (hB.out.trans (hb.mono hB.out.size)); clear hb)
              go_ret2
              exact ⟨by rw [hr.out]; rfl, HB2.out⟩
          · obtain rfl : j = k := by omega
            have hr : Hid (v0 = true) := Lib.hid (by rw [← HV.out, HVV.out]; exact allTo_iff.2 hall.out)
            go_wp2_with fail
            go_ret2
            exact ⟨by rw [hr.out]; rfl, hB.out⟩
      · have hne : (c0 != 0) = true := by simpa using hz
        have hr : Hid (v0 = false) := Lib.hid (by rw [← HV.out]; unfold ckVal; rw [HC.out, decide_eq_false hz]; rfl)
        clear hc0
        go_wp2_with (go_at_call 41; refine (l05Asked_any f hf n hn g hg s q _ b c _ (M.at 0 rfl) (HI.out.later M.below)).mono ?_; rintro e w' ⟨rfl, rfl⟩; rw [HC2.out])
        go_ret2
        exact ⟨by rw [hr.out]; rfl, M.below⟩
set_option maxRecDepth 100000 in
theorem ck_closure (S : Nat → Int) (x : Int) (pc : Nat) (w : World) (B : Blk w pc (acells .u64 2 S) 45) :
    Calls Tryd.prog 59 #[.int .i64 x, .pointer (some ⟨pc, 0, none⟩)] w fun e w' => e = .returned (.bool (!hasC S x)) ∧ Below w.heap.size w w' := by
  have HB := Lib.hid B
  clear B
  obtain ⟨q, hq⟩ : ∃ q, hasC S x = q := ⟨_, rfl⟩
  have HQ := Lib.hid hq
  rw [hq]; clear hq
  go_enter Tryd.func59, Tryd.ntmps59
  go_wp2_with (first
    | (refine wpList_load_part rfl 45 _ rfl pc 0 rfl (acells .u64 2 S) _ HB.out.whole Tryd.underlying45 rfl (by rw [acells_size]; exact sizeC) ?_)
    | (go_at_call 60; refine (hasCell_any S x _).mono ?_; rintro e w1 ⟨rfl, hb⟩; rw [HQ.out]))
  go_ret
  exact ⟨rfl, hb⟩
set_option maxRecDepth 100000 in
set_option maxHeartbeats 2000000 in
theorem ckIndex_some (S : Nat → Int) (m : Nat) (hm : m ≤ 2 ^ 40) (h : Nat → Int) (pc b2 c2 : Nat) (w : World) (B : Blk w pc (acells .u64 2 S) 45) (I2 : InI w b2 0 m h) :
    Calls Tryd.prog 79 #[.slice (some ⟨b2, 0, none⟩) m c2, .func (.func 59) #[] #[.pointer (some ⟨pc, 0, none⟩)]] w fun e w' => ∃ r : Int, e = .returned (.int .i64 r) ∧ decide (0 ≤ r) = !allTo m (fun i => hasC S (h i)) ∧ Below w.heap.size w w' := by
  have HB := Lib.hid B
  have HI2 := Lib.hid I2
  clear B I2
  go_enter Tryd.func79, Tryd.ntmps79
  go_wp2_with fail
  go_loopw [5, 8] (fun _ i wr => ∃ k : Nat, k ≤ m ∧ i = .int .i64 k ∧ Hid (Below w.heap.size w wr) ∧ Hid (∀ i, i < k → hasC S (h i) = true)) (fun _ i _ => m - (intOf i).toNat)
  case atStart => exact ⟨0, by omega, rfl, Lib.hid (Below.refl _ _), Lib.hid (fun i hi => absurd hi (by omega))⟩
  case round =>
    obtain ⟨k, hk, rfl, hBE, hall⟩ := hrel
    by_cases hlt : k < m
    · have c0 := (HI2.out.later hBE.out) k hlt
      rw [Nat.zero_add] at c0
      obtain ⟨q, hq⟩ : ∃ q, hasC S (h k) = q := ⟨_, rfl⟩
      have HQ := Lib.hid hq
      clear hq
      cases q with
      | true =>
        go_wp2_with (go_at_call 59; refine (ck_closure S (h k) pc _ (HB.out.later hBE.out)).mono ?_; rintro e W2 ⟨rfl, hb⟩; rw [HQ.out]; have HB2 := Lib.hid (hBE.out.trans (hb.mono hBE.out.size)); clear hb)
        go_roundw
        case rel => exact ⟨k + 1, by omega, by go_num, HB2, Lib.hid (upto_succ hall.out HQ.out)⟩
        case measure => simp [intOf]; omega
      | false =>
        have hr : Hid (allTo m (fun i => hasC S (h i)) = false) := Lib.hid (allTo_false hlt HQ.out)
        go_wp2_with (go_at_call 59; refine (ck_closure S (h k) pc _ (HB.out.later hBE.out)).mono ?_; rintro e W2 ⟨rfl, hb⟩; rw [HQ.out]; have HB2 := Lib.hid (hBE.out.trans (hb.mono hBE.out.size)); clear hb)
        go_ret
        exact ⟨(k : Int), rfl, by rw [hr.out, decide_eq_true (by omega)]; rfl, HB2.out⟩
    · obtain rfl : k = m := by omega
      have hr : Hid (allTo k (fun i => hasC S (h i)) = true) := Lib.hid (allTo_iff.2 hall.out)
      go_wp2_with fail
      go_ret
      exact ⟨-1, rfl, by rw [hr.out]; rfl, hBE.out⟩
theorem ckContains (S : Nat → Int) (m : Nat) (hm : m ≤ 2 ^ 40) (h : Nat → Int) (pc b2 c2 : Nat) (w : World) (B : Blk w pc (acells .u64 2 S) 45) (I2 : InI w b2 0 m h) :
    Calls Tryd.prog 58 #[.slice (some ⟨b2, 0, none⟩) m c2, .func (.func 59) #[] #[.pointer (some ⟨pc, 0, none⟩)]] w fun e w' => e = .returned (.bool (!allTo m (fun i => hasC S (h i)))) ∧ Below w.heap.size w w' := by
  have HB := Lib.hid B
  have HI2 := Lib.hid I2
  clear B I2
  go_enter Tryd.func58, Tryd.ntmps58
  go_wp2_with (go_at_call 79; refine (ckIndex_some S m hm h pc b2 c2 _ HB.out HI2.out).mono ?_; rintro e W2 ⟨r, rfl, hr, hb⟩; have HR := Lib.hid hr; clear hr)
  go_ret
  exact ⟨by rw [← HR.out]; rfl, hb⟩
set_option maxRecDepth 100000 in
set_option maxHeartbeats 4000000 in
theorem implCheckBeat (f : Fd) (hf : f.Wf) (n : Nat) (hn : n ≤ 2 ^ 40) (g : Nat → Int) (hg : WfH n g) (s : Int) (m : Nat) (hm : m ≤ 2 ^ 40) (h : Nat → Int) (hh : Wf64 m h) (b c b2 c2 : Nat) (A : Nat → Addr) (w : World) (I : InH w b 0 n g) (I2 : InI w b2 0 m h) (S0 : Sents w A) :
    Calls Tryd.prog 36 #[.agg (fcells f), .slice (some ⟨b, 0, none⟩) n c, .int .i64 s, .slice (some ⟨b2, 0, none⟩) m c2] w fun e w' => e = .returned (.tuple #[.bool (ckVal f n g s m h), .int .i64 (ckCode f n g s m h)]) ∧ Below w.heap.size w w' := by
  have S : Hid (Sents w A) := Lib.hid S0
  have HI := Lib.hid I
  have HI2 := Lib.hid I2
  have HH := Lib.hid hh
  clear S0 I I2 hh
  have hif := isIfaceErr
  obtain ⟨c0, hc0⟩ : ∃ y, ckCode f n g s m h = y := ⟨_, rfl⟩
  have HC : Hid (beatAsk f n g s (allTo m (fun i => isCell f (h i))) = c0) := Lib.hid hc0
  have hcs := beatAsk_cases f n g s (ckFine f m h)
  rw [show beatAsk f n g s (ckFine f m h) = c0 from hc0] at hcs
  by_cases hz : c0 = 0
  · subst hz
    obtain ⟨h1, hss, h4⟩ := beatAsk_0 HC.out
    obtain ⟨hok, n1, n2⟩ := okB_iff h1
    have HG := Lib.hid (CellsG.of (okB_ok h1))
    have HV : Hid (ckVal f n g s m h = allTo m (fun i => hasC (wantSet f (sawQ n g s) 100) (h i))) := Lib.hid (by
      unfold ckVal
      rw [hc0, decide_eq_true rfl, Bool.true_and]
      refine allTo_congr (fun i hi => ?_)
      have h5 := allTo_iff.1 h4 i hi
      obtain ⟨x, hx, hxe⟩ := cell_nat h5
      rw [hxe] at h5 ⊢
      rw [hasC_want f _ hx, decide_eq_true hx, h5, Int.toNat_natCast]; rfl)
    rw [hc0]
    clear h1 h4 hc0 hcs
    have hnil : codeErr A 0 = .nilIface := rfl
    obtain ⟨v0, hv0⟩ : ∃ y, allTo m (fun i => hasC (wantSet f (sawQ n g s) 100) (h i)) = y := ⟨_, rfl⟩
    rw [HV.out, hv0]
    have HV0 := Lib.hid hv0
    clear hv0
    have ok0 : True := trivial
    have ok1 : True := trivial
    go_enter Tryd.func36, Tryd.ntmps36
    go_upto_region 1 with (fail)
    obtain ⟨W, hW, M⟩ := open1 w (fcells f) 30
    rw [hW]; clear hW
    go_upto_region 5 with (first
      | (clear ok0; refine wpList_load_part rfl 30 _ rfl w.heap.size 0 rfl (fcells f) _ (M.at 0 rfl).whole Tryd.underlying30 rfl (by rw [fcells_size]; exact sizeFd) ?_)
      | (go_at_call 51; refine (checkWatching_any f hf n hn g hg s m hm h HH.out b c _ _ A _ (HI.out.later M.below) (.inr ⟨b2, rfl, HI2.out.later M.below⟩) (S.out.later M.below)).mono ?_; rintro e W2 ⟨rfl, hb⟩; rw [HC.out, hnil]; have M2 := M.call hb; clear hb)
      | (clear ok1; refine wpList_load_part rfl 30 _ rfl w.heap.size 0 rfl (fcells f) _ (M2.at 0 rfl).whole Tryd.underlying30 rfl (by rw [fcells_size]; exact sizeFd) ?_)
      | (go_at_call 52; refine (seenBy_any f hf hok n n1 n2 g HG.out s hss b c _ (HI.out.later M2.below)).mono ?_; rintro e W3 ⟨rfl, hb⟩; have M3 := M2.call hb; clear hb)
      | (refine wpList_store_row rfl 45 _ _ rfl W3.heap.size (acells .u64 2 (wantSet f (sawQ n g s) 100)) rfl rfl 45 _ ((M3.alloc #[.int .u64 0, .int .u64 0] 45).at 1 rfl) (by rw [acells_size]; exact sizeC) (by rw [acells_size]; rfl) (acells_one _ _ _) ?_))
    have M4 := (M3.alloc #[.int .u64 0, .int .u64 0] 45).row 1 rfl (acells .u64 2 (wantSet f (sawQ n g s) 100))
    generalize World.setRow _ _ _ = W4 at M4 ⊢
    go_wp2_with (go_at_call 58; refine (ckContains (wantSet f (sawQ n g s) 100) m hm h W3.heap.size b2 c2 _ (M4.at 1 rfl) (HI2.out.later M4.below)).mono ?_; rintro e W5 ⟨rfl, hb⟩; rw [HV0.out]; have M5 := M4.call hb; clear hb)
    go_ret2
    exact ⟨by simp, M5.below⟩
  · have hr : ckVal f n g s m h = false := by unfold ckVal; rw [hc0, decide_eq_false hz]; rfl
    rw [hr, hc0]
    have hce : codeErr A c0 = errVal (A c0.toNat) := by unfold codeErr; rw [if_neg hz]
    obtain ⟨q, hq1, hq2, rfl⟩ : ∃ q : Nat, 1 ≤ q ∧ q ≤ 2 ∧ c0 = (q : Int) := ⟨c0.toNat, by omega, by omega, by omega⟩
    rw [Int.toNat_natCast] at hce
    clear hc0 hcs hz hr
    rcases (show q = 1 ∨ q = 2 by omega) with rfl | rfl
    · go_enter Tryd.func36, Tryd.ntmps36
      go_upto_region 1 with (fail)
      obtain ⟨W, hW, M⟩ := open1 w (fcells f) 30
      rw [hW]; clear hW
      go_wp2_with (first
        | (refine wpList_load_part rfl 30 _ rfl w.heap.size 0 rfl (fcells f) _ (M.at 0 rfl).whole Tryd.underlying30 rfl (by rw [fcells_size]; exact sizeFd) ?_)
        | (go_at_call 51; refine (checkWatching_any f hf n hn g hg s m hm h HH.out b c _ _ A _ (HI.out.later M.below) (.inr ⟨b2, rfl, HI2.out.later M.below⟩) (S.out.later M.below)).mono ?_; rintro e W2 ⟨rfl, hb⟩; rw [HC.out, hce]; have M2 := M.call hb; have v2 := (S.out.later M2.below).v1; clear hb)
        | (go_at_call 43; refine (codeOf_err A 1 (by omega) (by omega) _ (S.out.later M2.below)).mono ?_; rintro e W3 ⟨rfl, rfl⟩))
      go_ret2
      exact ⟨rfl, M2.below⟩
    · go_enter Tryd.func36, Tryd.ntmps36
      go_upto_region 1 with (fail)
      obtain ⟨W, hW, M⟩ := open1 w (fcells f) 30
      rw [hW]; clear hW
      go_wp2_with (first
        | (refine wpList_load_part rfl 30 _ rfl w.heap.size 0 rfl (fcells f) _ (M.at 0 rfl).whole Tryd.underlying30 rfl (by rw [fcells_size]; exact sizeFd) ?_)
        | (go_at_call 51; refine (checkWatching_any f hf n hn g hg s m hm h HH.out b c _ _ A _ (HI.out.later M.below) (.inr ⟨b2, rfl, HI2.out.later M.below⟩) (S.out.later M.below)).mono ?_; rintro e W2 ⟨rfl, hb⟩; rw [HC.out, hce]; have M2 := M.call hb; have v2 := (S.out.later M2.below).v2; clear hb)
        | (go_at_call 43; refine (codeOf_err A 2 (by omega) (by omega) _ (S.out.later M2.below)).mono ?_; rintro e W3 ⟨rfl, rfl⟩))
      go_ret2
      exact ⟨rfl, M2.below⟩
end Go.Proofs.YtdjbaajcgipebaaDoor
