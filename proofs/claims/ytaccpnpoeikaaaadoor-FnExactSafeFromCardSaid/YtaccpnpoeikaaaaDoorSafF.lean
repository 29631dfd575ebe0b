/-
  The soil cells to which no flock would go.
-/
import Derived.Test.YtaccpnpoeikaaaaDoorCfr
import Derived.Test.YtaccpnpoeikaaaaDoorKSet
import Derived.Test.YtaccpnpoeikaaaaDoorSetB
import Derived.Test.YtaccpnpoeikaaaaDoorSetN
import Derived.Test.YtaccpnpoeikaaaaDoorSets2
namespace Go.Proofs.YtaccpnpoeikaaaaDoor
open Go Go.RowKit

theorem bit_noF {F : Nat → Int} (hF : N100 F) {i k x : Nat} (hi : i < 2) (e : F i = (x : Int)) (hk : ¬ 64 * i + k < 100 ∨ ¬ k < 64) : x.testBit k = false := by
  have h2 := (hF.1 i).2
  rcases Nat.lt_or_ge i 1 with h0 | h0
  · obtain rfl : i = 0 := by omega
    have hx : x < 2 ^ 64 := by rw [← p64]; omega
    exact Nat.testBit_lt_two_pow (Nat.lt_of_lt_of_le hx (Nat.pow_le_pow_right (by omega) (by omega)))
  · obtain rfl : i = 1 := by omega
    have h3 := hF.2
    have hx : x < 2 ^ 36 := by rw [← p36]; omega
    exact Nat.testBit_lt_two_pow (Nat.lt_of_lt_of_le hx (Nat.pow_le_pow_right (by omega) (by omega)))
/-- Two sets that have the same numbers are the same. -/
theorem set_extF {f g : Nat → Int} (hf : N100 f) (hg : N100 g) (h : ∀ j : Nat, j < 100 → hasC f (j : Int) = hasC g (j : Int)) : acells .u64 2 f = acells .u64 2 g := acells_congr (fun i hi => by
  obtain ⟨a, ea, ha⟩ := nat_of hf.1 i
  obtain ⟨b, eb, hb⟩ := nat_of hg.1 i
  rw [ea, eb]
  have e : a = b := Nat.eq_of_testBit_eq (fun k => by
    by_cases hk : 64 * i + k < 100 ∧ k < 64
    · have h1 := h (64 * i + k) hk.1
      rw [hasC_bit (a := a) hk.1 (by rw [show (64 * i + k) / 64 = i by omega]; exact ea) ha, hasC_bit (a := b) hk.1 (by rw [show (64 * i + k) / 64 = i by omega]; exact eb) hb, show (64 * i + k) % 64 = k by omega] at h1
      exact h1
    · have hk' : ¬ 64 * i + k < 100 ∨ ¬ k < 64 := by omega
      rw [bit_noF hf hi ea hk', bit_noF hg hi eb hk'])
  rw [e])
theorem want_N100F (f : Fd) (q : Nat → Bool) : ∀ n, n ≤ 100 → N100 (wantSet f q n)
  | 0, _ => zero_N100
  | n + 1, h => by
    cases e : (isCell f n && q n) with
    | true =>
      have e' := e
      simp only [Bool.and_eq_true] at e'
      rw [wantSet_yes e'.1 e'.2]; exact putC_N100 (want_N100F f q n (by omega)) (by omega)
    | false => rw [wantSet_no e]; exact want_N100F f q n (by omega)
theorem allTo_moreF (k : Nat) (p : Nat → Bool) : allTo (k + 1) p = (allTo k p && p k) := by unfold allTo; rw [List.range_succ, List.all_append]; simp
theorem kindSet_want (f : Fd) (v : Int) : ∀ n, kindSet f v n = wantSet f (fun k => f.K k == v) n
  | 0 => rfl
  | n + 1 => by rw [kindSet, wantSet, kindSet_want f v n]
/-- What is safe from the first flocks. -/
def sfQ (f : Fd) (g : Nat → Int) (F : Nat → Nat → Int) (n : Nat) (k : Nat) : Bool := f.K k == 0 && allTo n (fun i => !wldQ f g (F i) k)
def sfS (f : Fd) (g : Nat → Int) (F : Nat → Nat → Int) : Nat → Nat → Int
  | 0 => kindSet f 0 100
  | j + 1 => joinC .andNot (sfS f g F j) (wantSet f (wldQ f g (F j)) 100)
theorem sfS_N100 (f : Fd) (g : Nat → Int) (F : Nat → Nat → Int) : ∀ j, N100 (sfS f g F j)
  | 0 => by rw [sfS, kindSet_want]; exact want_N100F f _ 100 (Nat.le_refl _)
  | j + 1 => by rw [sfS]; exact less_N100 (sfS_N100 f g F j) (want_u64 f _ 100)
theorem sfS_has (f : Fd) (g : Nat → Int) (F : Nat → Nat → Int) {c : Nat} (hc : c < 100) : ∀ j, hasC (sfS f g F j) (c : Int) = (isCell f (c : Int) && sfQ f g F j c)
  | 0 => by
    rw [sfS, kindSet_want, hasC_want f _ hc, decide_eq_true hc, Bool.true_and]
    unfold sfQ
    rw [show allTo 0 (fun i => !wldQ f g (F i) c) = true from rfl, Bool.and_true]
  | j + 1 => by
    rw [sfS, hasC_less (sfS_N100 f g F j).1 (want_u64 f _ 100) hc, sfS_has f g F hc j, hasC_want f _ hc, decide_eq_true hc, Bool.true_and]
    unfold sfQ
    rw [allTo_moreF]
    cases isCell f (c : Int) <;> cases f.K c == 0 <;> cases allTo j (fun i => !wldQ f g (F i) c) <;> cases wldQ f g (F j) c <;> rfl
theorem sfS_want (f : Fd) (g : Nat → Int) (F : Nat → Nat → Int) (n : Nat) : acells .u64 2 (sfS f g F n) = acells .u64 2 (wantSet f (sfQ f g F n) 100) :=
  set_extF (sfS_N100 f g F n) (want_N100F f _ 100 (Nat.le_refl _)) (fun c hc => by rw [sfS_has f g F hc, hasC_want f _ hc, decide_eq_true hc, Bool.true_and])
def alOk (f : Fd) (g : Nat → Int) (n : Nat) (F : Nat → Nat → Int) : Bool := okFears f g && okFlocks f n F
def alCode (f : Fd) (g : Nat → Int) (n : Nat) (F : Nat → Nat → Int) : Int := if alOk f g n F then 0 else 1
theorem al_parts {f : Fd} {g : Nat → Int} {n : Nat} {F : Nat → Nat → Int} (h : alOk f g n F = true) : okF f = true ∧ n ≤ 12 ∧ ∀ i, i < n → flockOk f (F i) = true := by
  unfold alOk okFlocks at h
  simp only [Bool.and_eq_true, decide_eq_true_eq] at h
  exact ⟨h.2.1.1, h.2.2, allTo_iff.1 h.2.1.2⟩
theorem okBirdsL (f : Fd) (g : Nat → Int) (n : Nat) (F : Nat → Nat → Int) : (okFlocks f n F && allTo 100 (fearOk f g)) = alOk f g n F := by
  unfold alOk okFears okFlocks
  cases okF f <;> cases allTo n (fun i => flockOk f (F i)) <;> cases decide (n ≤ 12) <;> cases allTo 100 (fearOk f g) <;> rfl
set_option maxRecDepth 100000 in
theorem l02All_any (f : Fd) (hf : f.Wf) (g : Nat → Int) (hg : Wf16 g) (n : Nat) (hn : n ≤ 2 ^ 40) (F : Nat → Nat → Int) (hF : WfS ksFlock n F) (b c d cp : Nat) (w : World) (B : Blk w b (fcells f) 35) (G : Blk w c (acells .i16 100 g) 37) (I : InS w d 0 n ksFlock F) :
    Calls Tryd.prog 31 #[.pointer (some ⟨b, 0, none⟩), .pointer (some ⟨c, 0, none⟩), .slice (some ⟨d, 0, none⟩) n cp] w fun e w' => e = .returned (.int .i64 (alCode f g n F)) ∧ w = w' := by
  have HB := Lib.hid B
  have HG := Lib.hid G
  have HI := Lib.hid I
  clear B G I
  unfold alCode alOk
  cases h1 : okFears f g with
  | false =>
    rw [Bool.false_and, if_neg (by decide)]
    go_enter Tryd.func31, Tryd.ntmps31
    go_wp2_with (go_at_call 46; refine (l02Fears_any f hf g hg b c _ HB.out HG.out).mono ?_; rintro e w1 ⟨rfl, rfl⟩; rw [h1])
    go_ret
    exact ⟨rfl, rfl⟩
  | true =>
    rw [Bool.true_and]
    have H1 := Lib.hid h1
    clear h1
    cases h2 : okFlocks f n F with
    | false =>
      rw [if_neg (by decide)]
      go_enter Tryd.func31, Tryd.ntmps31
      go_wp2_with (first
        | (go_at_call 46; refine (l02Fears_any f hf g hg b c _ HB.out HG.out).mono ?_; rintro e w1 ⟨rfl, rfl⟩; rw [H1.out])
        | (go_at_call 55; refine (l02Ok_any f hf n hn F hF b d cp _ HB.out HI.out).mono ?_; rintro e w1 ⟨rfl, rfl⟩; rw [h2]))
      go_ret
      exact ⟨rfl, rfl⟩
    | true =>
      rw [if_pos rfl]
      go_enter Tryd.func31, Tryd.ntmps31
      go_wp2_with (first
        | (go_at_call 46; refine (l02Fears_any f hf g hg b c _ HB.out HG.out).mono ?_; rintro e w1 ⟨rfl, rfl⟩; rw [H1.out])
        | (go_at_call 55; refine (l02Ok_any f hf n hn F hF b d cp _ HB.out HI.out).mono ?_; rintro e w1 ⟨rfl, rfl⟩; rw [h2]))
      go_ret
      exact ⟨rfl, rfl⟩
def sfVal (f : Fd) (g : Nat → Int) (n : Nat) (F : Nat → Nat → Int) : Nat → Int := if alOk f g n F then wantSet f (sfQ f g F n) 100 else fun _ => 0
set_option maxRecDepth 100000 in
set_option maxHeartbeats 8000000 in
theorem specSafeFrom (f : Fd) (hf : f.Wf) (g : Nat → Int) (hg : Wf16 g) (n : Nat) (hn : n ≤ 2 ^ 40) (F : Nat → Nat → Int) (hF : WfS ksFlock n F) (d cp : Nat) (w : World) (I : InS w d 0 n ksFlock F) :
    Calls Tryd.prog 14 #[.agg (fcells f), .agg (acells .i16 100 g), .slice (some ⟨d, 0, none⟩) n cp] w fun e w' => e = .returned (.tuple #[.agg (acells .u64 2 (sfVal f g n F)), .int .i64 (alCode f g n F)]) ∧ Below w.heap.size w w' := by
  have HI := Lib.hid I
  clear I
  unfold sfVal
  cases hok : alOk f g n F with
  | false =>
    have hcode : alCode f g n F = 1 := by unfold alCode; rw [hok]; rfl
    have HC := Lib.hid hcode
    rw [hcode, if_neg (by decide)]
    clear hok hcode
    go_enter Tryd.func14, Tryd.ntmps14
    go_upto_region 1 with (fail)
    rw [zero2]
    obtain ⟨W, hW, M⟩ := open3 w (fcells f) 35 (acells .i16 100 g) 37 (acells .u64 2 (fun _ => 0)) 32
    rw [hW]; clear hW
    go_wp2_with (first
      | (go_at_call 31; refine (l02All_any f hf g hg n hn F hF w.heap.size (w.heap.size + 1) d cp _ (M.at 0 rfl) (M.at 1 rfl) (HI.out.later M.below)).mono ?_; rintro e w1 ⟨rfl, rfl⟩; rw [HC.out])
      | (refine wpList_store_row rfl 32 _ _ rfl (w.heap.size + 1 + 1) (acells .u64 2 (fun _ => 0)) rfl rfl 32 _ (M.at 2 rfl) (by rw [acells_size]; exact sizeC) (by simp only [acells_size]) (acells_one _ _ _) ?_))
    have M3 := M.row 2 rfl (acells .u64 2 (fun _ => 0))
    exact bodyPost_ret (results_row_tmp rfl _ _ (w.heap.size + 1 + 1) 32 _ _ _ rfl (M3.at 2 rfl) Tryd.underlying32 rfl (by rw [acells_size]; exact sizeC)) rfl ⟨rfl, M3.below⟩
  | true =>
    have hcode : alCode f g n F = 0 := by unfold alCode; rw [hok]; rfl
    have HC := Lib.hid hcode
    obtain ⟨hokf, hn12, hfl⟩ := al_parts hok
    have HFL := Lib.hid hfl
    have HWF := Lib.hid (fun i (hi : i < n) => hF.row hi)
    have HKb := Lib.hid hf.K
    rw [hcode, if_pos rfl]
    have HLW := Lib.hid (fun (i : Nat) (hi : i < n) (k : Nat) (hk : k < 100) (b c d o : Nat) (w : World) B G H => l02Would_any f hf g hg (F i) (hF.row hi) (flock_tree (hfl i hi)) k hk b c d o w B G H)
    clear hok hcode hokf hfl
    obtain ⟨q, hq⟩ : ∃ q, sfQ f g F n = q := ⟨_, rfl⟩
    have HQ : Hid (∀ k, (f.K k == 0 && allTo n (fun i => !wldQ f g (F i) k)) = q k) := Lib.hid (fun k => by rw [← hq]; rfl)
    rw [hq]
    clear hq
    go_enter Tryd.func14, Tryd.ntmps14
    go_upto_region 1 with (fail)
    rw [zero2]
    obtain ⟨W, hW, M⟩ := open3 w (fcells f) 35 (acells .i16 100 g) 37 (acells .u64 2 (fun _ => 0)) 32
    rw [hW]; clear hW
    go_upto_region 5 with (go_at_call 31; refine (l02All_any f hf g hg n hn F hF w.heap.size (w.heap.size + 1) d cp _ (M.at 0 rfl) (M.at 1 rfl) (HI.out.later M.below)).mono ?_; rintro e w1 ⟨rfl, rfl⟩; rw [HC.out])
    (try rw [zero2])
    obtain ⟨ob, hob⟩ : ∃ ob, ob = W.heap.size := ⟨_, rfl⟩
    have M2 : Mem w (W.alloc (Obj.cells (acells .u64 2 (fun _ => 0)) 32)) [⟨w.heap.size, fcells f, 35⟩, ⟨w.heap.size + 1, acells .i16 100 g, 37⟩, ⟨w.heap.size + 1 + 1, acells .u64 2 (fun _ => 0), 32⟩, ⟨ob, acells .u64 2 (wantSet f q 0), 32⟩] := by rw [hob]; exact M.alloc (acells .u64 2 (fun _ => 0)) 32
    generalize W.alloc _ = W2 at M2 ⊢
    rw [← hob]
    clear hob M
    have HM := Lib.hid M2
    clear M2
    go_wp2_with fail
    go_loopw [10, 11, 12] (fun i _ _ wr => ∃ k : Nat, k ≤ 100 ∧ i = .int .i64 k ∧ Hid (Mem w wr [⟨w.heap.size, fcells f, 35⟩, ⟨w.heap.size + 1, acells .i16 100 g, 37⟩, ⟨w.heap.size + 1 + 1, acells .u64 2 (fun _ => 0), 32⟩, ⟨ob, acells .u64 2 (wantSet f q k), 32⟩])) (fun i _ _ _ => 100 - (intOf i).toNat)
    case atStart => exact ⟨0, by omega, rfl, HM⟩
    case round =>
      clear HM
      obtain ⟨k, hk', rfl, hM⟩ := hrel
      by_cases hlt : k < 100
      · have hk1 : (k : Int) < 100 := by omega
        have cK := (hM.out.at 0 rfl).cell (fcells_K f k hlt)
        have hKb := HKb.out k hlt
        have hqk := HQ.out k
        obtain ⟨s, hs⟩ : ∃ s, (isCell f (k : Int) && f.K k == 0) = s := ⟨_, rfl⟩
        have hsq : (isCell f (k : Int) && q k) = (s && allTo n (fun i => !wldQ f g (F i) k)) := by
          rw [← hqk, ← hs]
          cases isCell f (k : Int) <;> cases f.K k == 0 <;> rfl
        have HSQ := Lib.hid hsq
        have HSC : Hid (s = true → isCell f (k : Int) = true) := Lib.hid (fun h => by rw [← hs] at h; simp only [Bool.and_eq_true] at h; exact h.1)
        have hcell : Hid (s = true → isCell f (k : Int) = true ∧ (f.K k == 0) = true) := Lib.hid (fun h => by rw [← hs] at h; simpa using h)
        have hcut : Hid (s = false → isCell f (k : Int) = false ∨ (isCell f (k : Int) = true ∧ (f.K k == 0) = false)) := Lib.hid (fun h => by
          rw [← hs] at h
          cases h1 : isCell f (k : Int) with
          | false => exact .inl rfl
          | true => rw [h1, Bool.true_and] at h; exact .inr ⟨rfl, h⟩)
        clear hqk hsq
        have step : ∀ (PP : Prop), PP → PP := fun _ h => h
        have hfin : ∀ v : Bool, (s && allTo n (fun i => !wldQ f g (F i) k)) = v → (isCell f (k : Int) && q k) = v := fun v h => by rw [HSQ.out]; exact h
        have HFIN := Lib.hid hfin
        clear hfin step hs
        cases s with
        | true =>
          obtain ⟨hc1, hkk⟩ := hcell.out rfl
          have HC1 := Lib.hid hc1
          clear hc1 hcut hcell
          go_upto_region 9 with (go_at_call 32; refine (l01Is_any f (k : Int) w.heap.size _ hf.W hf.H (hM.out.at 0 rfl)).mono ?_; rintro e w' ⟨rfl, rfl⟩; rw [HC1.out])
          go_wp2_with fail
          have HM := Lib.hid hM.out
          clear hM
          go_loopw [11, 12] (fun v i wr => ∃ r : Nat, r ≤ n ∧ i = .int .i64 r ∧ v = .bool (allTo r (fun i => !wldQ f g (F i) k)) ∧ Hid (Mem w wr [⟨w.heap.size, fcells f, 35⟩, ⟨w.heap.size + 1, acells .i16 100 g, 37⟩, ⟨w.heap.size + 1 + 1, acells .u64 2 (fun _ => 0), 32⟩, ⟨ob, acells .u64 2 (wantSet f q k), 32⟩])) (fun _ i _ => n - (intOf i).toNat)
          case atStart => exact ⟨0, by omega, rfl, rfl, HM⟩
          case round =>
            clear HM
            obtain ⟨r, hr, rfl, rfl, hM⟩ := hrel
            by_cases hlt2 : r < n
            · have hst := allTo_moreF r (fun i => !wldQ f g (F i) k)
              have hHF : Hid (FlkAt wr d (r * 6) (F r)) := Lib.hid (flkAt_of (by have h := (HI.out.later hM.out.below) r hlt2; rw [Nat.zero_add] at h; exact h))
              cases hv : allTo r (fun i => !wldQ f g (F i) k) with
              | false =>
                rw [hv, Bool.false_and] at hst
                have HST := Lib.hid hst
                clear hst hv
                go_wp2_with fail
                go_roundw
                case rel => exact ⟨r + 1, by omega, by go_num, by rw [HST.out], hM⟩
                case measure => simp [intOf]; omega
              | true =>
                rw [hv, Bool.true_and] at hst
                obtain ⟨x, hx⟩ : ∃ x, wldQ f g (F r) k = x := ⟨_, rfl⟩
                rw [hx] at hst
                have HST := Lib.hid hst
                have HX := Lib.hid hx
                clear hst hv hx
                go_wp2_with (go_at_call 33; refine (HLW.out r hlt2 k hlt w.heap.size (w.heap.size + 1) d (r * 6) _ (hM.out.at 0 rfl) (hM.out.at 1 rfl) hHF.out).mono ?_; rintro e w2 ⟨rfl, hb⟩; rw [HC1.out, HX.out]; have hM2 := Lib.hid (hM.out.call hb); clear hb)
                go_roundw
                case rel => exact ⟨r + 1, by omega, by go_num, by rw [HST.out], hM2⟩
                case measure => simp [intOf]; omega
            · obtain rfl : r = n := by omega
              cases hv : allTo r (fun i => !wldQ f g (F i) k) with
              | false =>
                have hno : Hid (wantSet f q (k + 1) = wantSet f q k) := Lib.hid (wantSet_no (HFIN.out false (by rw [hv]; rfl)))
                clear hv
                go_wp2_with fail
                go_roundw
                case rel => exact ⟨k + 1, by omega, by go_num, by rw [hno.out]; exact hM⟩
                case measure => simp [intOf]; omega
              | true =>
                have hyes : Hid (wantSet f q (k + 1) = putC (wantSet f q k) k) := Lib.hid (by
                  have h := HFIN.out true (by rw [hv]; rfl)
                  simp only [Bool.and_eq_true] at h
                  exact wantSet_yes h.1 h.2)
                obtain ⟨h9, hh9⟩ : ∃ h9, wantSet f q k = h9 := ⟨_, rfl⟩
                rw [hh9] at hM hyes
                clear hv hh9
                go_wp2_with (go_at_call 34; refine (l01Put_any h9 k hlt _ _ (hM.out.at 3 rfl)).mono ?_; rintro e w3 ⟨⟨_, rfl⟩, i, vv, hw2, hset⟩; have M4 := Lib.hid (hM.out.set 3 i vv rfl _ hset).drew; rw [hw2] at M4)
                go_roundw
                case rel => exact ⟨k + 1, by omega, by go_num, by rw [hyes.out]; exact M4⟩
                case measure => simp [intOf]; omega
        | false =>
          rcases hcut.out rfl with hc1 | ⟨hc1, hkk⟩
          · have HC1 := Lib.hid hc1
            clear hc1 hcut hcell
            go_upto_region 9 with (go_at_call 32; refine (l01Is_any f (k : Int) w.heap.size _ hf.W hf.H (hM.out.at 0 rfl)).mono ?_; rintro e w' ⟨rfl, rfl⟩; rw [HC1.out])
            have hno : Hid (wantSet f q (k + 1) = wantSet f q k) := Lib.hid (wantSet_no (HFIN.out false rfl))
            go_wp2_with fail
            have HM := Lib.hid hM.out
            clear hM
            go_loopw [11, 12] (fun v i wr => ∃ r : Nat, r ≤ n ∧ i = .int .i64 r ∧ v = .bool false ∧ Hid (Mem w wr [⟨w.heap.size, fcells f, 35⟩, ⟨w.heap.size + 1, acells .i16 100 g, 37⟩, ⟨w.heap.size + 1 + 1, acells .u64 2 (fun _ => 0), 32⟩, ⟨ob, acells .u64 2 (wantSet f q k), 32⟩])) (fun _ i _ => n - (intOf i).toNat)
            case atStart => exact ⟨0, by omega, rfl, rfl, HM⟩
            case round =>
              clear HM
              obtain ⟨r, hr, rfl, rfl, hM⟩ := hrel
              by_cases hlt2 : r < n
              · go_wp2_with fail
                go_roundw
                case rel => exact ⟨r + 1, by omega, by go_num, rfl, hM⟩
                case measure => simp [intOf]; omega
              · obtain rfl : r = n := by omega
                go_wp2_with fail
                go_roundw
                case rel => exact ⟨k + 1, by omega, by go_num, by rw [hno.out]; exact hM⟩
                case measure => simp [intOf]; omega
          · have HC1 := Lib.hid hc1
            clear hc1 hcut hcell
            go_upto_region 9 with (go_at_call 32; refine (l01Is_any f (k : Int) w.heap.size _ hf.W hf.H (hM.out.at 0 rfl)).mono ?_; rintro e w' ⟨rfl, rfl⟩; rw [HC1.out])
            have hno : Hid (wantSet f q (k + 1) = wantSet f q k) := Lib.hid (wantSet_no (HFIN.out false rfl))
            go_wp2_with fail
            have HM := Lib.hid hM.out
            clear hM
            go_loopw [11, 12] (fun v i wr => ∃ r : Nat, r ≤ n ∧ i = .int .i64 r ∧ v = .bool false ∧ Hid (Mem w wr [⟨w.heap.size, fcells f, 35⟩, ⟨w.heap.size + 1, acells .i16 100 g, 37⟩, ⟨w.heap.size + 1 + 1, acells .u64 2 (fun _ => 0), 32⟩, ⟨ob, acells .u64 2 (wantSet f q k), 32⟩])) (fun _ i _ => n - (intOf i).toNat)
            case atStart => exact ⟨0, by omega, rfl, rfl, HM⟩
            case round =>
              clear HM
              obtain ⟨r, hr, rfl, rfl, hM⟩ := hrel
              by_cases hlt2 : r < n
              · go_wp2_with fail
                go_roundw
                case rel => exact ⟨r + 1, by omega, by go_num, rfl, hM⟩
                case measure => simp [intOf]; omega
              · obtain rfl : r = n := by omega
                go_wp2_with fail
                go_roundw
                case rel => exact ⟨k + 1, by omega, by go_num, by rw [hno.out]; exact hM⟩
                case measure => simp [intOf]; omega
      · obtain rfl : k = 100 := by omega
        obtain ⟨h9, hh9⟩ : ∃ h9, wantSet f q 100 = h9 := ⟨_, rfl⟩
        have HH := Lib.hid hh9
        rw [hh9] at hM
        clear hh9
        go_wp2_with (first
          | (refine wpList_load_part rfl 32 _ rfl ob 0 rfl (acells .u64 2 h9) _ (hM.out.at 3 rfl).whole Tryd.underlying32 rfl (by rw [acells_size]; exact sizeC) ?_)
          | (refine wpList_store_row rfl 32 _ _ rfl (w.heap.size + 1 + 1) (acells .u64 2 (h9)) rfl rfl 32 _ (hM.out.at 2 rfl) (by rw [acells_size]; exact sizeC) (by simp only [acells_size]) (acells_one _ _ _) ?_))
        have M5 := hM.out.row 2 rfl (acells .u64 2 h9)
        exact bodyPost_ret (results_row_tmp rfl _ _ (w.heap.size + 1 + 1) 32 _ _ _ rfl (M5.at 2 rfl) Tryd.underlying32 rfl (by rw [acells_size]; exact sizeC)) rfl ⟨by rw [HH.out]; rfl, M5.below⟩
theorem withoutF (f g : Nat → Int) (hf : N100 f) (hg : U64 g) (w : World) : Calls Tryd.prog 36 #[.agg (acells .u64 2 f), .agg (acells .u64 2 g)] w fun e w' => e = .returned (.agg (acells .u64 2 (joinC .andNot f g))) ∧ Below w.heap.size w w' := by
  rw [← opC_join (less_N100 hf hg)]; exact implWithoutOf f g w
set_option maxRecDepth 100000 in
set_option maxHeartbeats 8000000 in
theorem implSafeFrom (f : Fd) (hf : f.Wf) (g : Nat → Int) (hg : Wf16 g) (n : Nat) (hn : n ≤ 2 ^ 40) (F : Nat → Nat → Int) (hF : WfS ksFlock n F) (d cp : Nat) (A : Nat → Addr) (w : World) (T0 : TabAt w) (S0 : Sents w A) (I : InS w d 0 n ksFlock F) :
    Calls Tryd.prog 16 #[.agg (fcells f), .agg (acells .i16 100 g), .slice (some ⟨d, 0, none⟩) n cp] w fun e w' => e = .returned (.tuple #[.agg (acells .u64 2 (sfVal f g n F)), .int .i64 (alCode f g n F)]) ∧ Below w.heap.size w w' := by
  have S := Lib.hid S0
  have T := Lib.hid T0
  have HI := Lib.hid I
  clear S0 T0 I
  have hif := isIfaceErr
  unfold sfVal
  cases hok : alOk f g n F with
  | false =>
    have hcode : alCode f g n F = 1 := by unfold alCode; rw [hok]; rfl
    have HOK : Hid ((okFlocks f n F && allTo 100 (fearOk f g)) = false) := Lib.hid (by rw [okBirdsL]; exact hok)
    rw [hcode, if_neg (by decide)]
    clear hok hcode
    go_enter Tryd.func16, Tryd.ntmps16
    go_upto_region 1 with (fail)
    rw [zero2]
    obtain ⟨W, hW, M⟩ := open3 w (fcells f) 35 (acells .i16 100 g) 37 (acells .u64 2 (fun _ => 0)) 32
    rw [hW]; clear hW
    go_wp2_with (first
      | (refine wpList_load_part rfl 35 _ rfl w.heap.size 0 rfl (fcells f) _ (M.at 0 rfl).whole Tryd.underlying35 rfl (by rw [fcells_size]; exact sizeFd) ?_)
      | (refine wpList_load_part rfl 37 _ rfl (w.heap.size + 1) 0 rfl (acells .i16 100 g) _ (M.at 1 rfl).whole Tryd.underlying37 rfl (by rw [acells_size]; exact sizeE) ?_)
      | (refine wpList_buildRow rfl 90 37 _ rfl (acells .i16 100 g) rfl Tryd.underlying90 (by rw [acells_size]; exact sizeE) (by rw [acells_size]; kernel_rfl) (by rw [acells_size]; omega) (by rw [acells_size]; omega) ?_; have MB := M.alloc (acells .i16 100 g) 37; have HB2 := Lib.hid (Blk.new W (acells .i16 100 g) 37))
      | (go_at_call 28; refine (checkBirds1 f hf n hn F hF g hg A d cp W.heap.size 37 _ (T.out.later MB.below) (S.out.later MB.below) (HI.out.later MB.below) HB2.out).mono ?_; rintro e W2 ⟨rfl, hb⟩; rw [HOK.out]; simp only [errIf, Bool.false_eq_true, if_false, if_true]; have M2 := MB.call hb; clear hb HB2)
      | (go_at_call 29; refine (codeOf_err A 1 (by omega) (by omega) _ (S.out.later M2.below)).mono ?_; rintro e W3 ⟨rfl, rfl⟩)
      | (refine wpList_store_row rfl 32 _ _ rfl (w.heap.size + 1 + 1) (acells .u64 2 (fun _ => 0)) rfl rfl 32 _ (M2.at 2 rfl) (by rw [acells_size]; exact sizeC) (by simp only [acells_size]) (acells_one _ _ _) ?_))
    have M3 := M2.row 2 rfl (acells .u64 2 (fun _ => 0))
    exact bodyPost_ret (results_row_tmp rfl _ _ (w.heap.size + 1 + 1) 32 _ _ _ rfl (M3.at 2 rfl) Tryd.underlying32 rfl (by rw [acells_size]; exact sizeC)) rfl ⟨rfl, M3.below⟩
  | true =>
    have hcode : alCode f g n F = 0 := by unfold alCode; rw [hok]; rfl
    have HOK : Hid ((okFlocks f n F && allTo 100 (fearOk f g)) = true) := Lib.hid (by rw [okBirdsL]; exact hok)
    obtain ⟨hokf, hn12, hfl⟩ := al_parts hok
    rw [hcode, if_pos rfl, ← sfS_want]
    have HCK : Hid (∀ w, Sents w A → Calls Tryd.prog 35 #[.agg (fcells f), .int .i64 0] w fun e w' => e = .returned (.tuple #[.agg (acells .u64 2 (sfS f g F 0)), .int .i64 0]) ∧ Below w.heap.size w w') := Lib.hid (fun w S => by
      have h := implCellsOfKind f hf 0 (by omega) (by omega) A w S
      unfold cellsOfKind kindCode kindOk at h
      rw [hokf] at h
      exact h)
    have HCF := Lib.hid (fun (i : Nat) (hi : i < n) (w : World) => cellsFor_any f hokf g hg (F i) (hF.row hi) (flock_tree (hfl i hi)) w)
    have HN : Hid (∀ j, N100 (sfS f g F j)) := Lib.hid (sfS_N100 f g F)
    have HST : Hid (∀ j, sfS f g F (j + 1) = joinC .andNot (sfS f g F j) (wantSet f (wldQ f g (F j)) 100)) := Lib.hid (fun _ => rfl)
    obtain ⟨K, hK⟩ : ∃ K, sfS f g F = K := ⟨_, rfl⟩
    rw [hK] at HCK HN HST ⊢
    clear hok hcode hokf hfl hK
    go_enter Tryd.func16, Tryd.ntmps16
    go_upto_region 1 with (fail)
    rw [zero2]
    obtain ⟨W, hW, M⟩ := open3 w (fcells f) 35 (acells .i16 100 g) 37 (acells .u64 2 (fun _ => 0)) 32
    rw [hW]; clear hW
    go_upto_region 4 with (first
      | (refine wpList_load_part rfl 35 _ rfl w.heap.size 0 rfl (fcells f) _ (M.at 0 rfl).whole Tryd.underlying35 rfl (by rw [fcells_size]; exact sizeFd) ?_)
      | (refine wpList_load_part rfl 37 _ rfl (w.heap.size + 1) 0 rfl (acells .i16 100 g) _ (M.at 1 rfl).whole Tryd.underlying37 rfl (by rw [acells_size]; exact sizeE) ?_)
      | (refine wpList_buildRow rfl 90 37 _ rfl (acells .i16 100 g) rfl Tryd.underlying90 (by rw [acells_size]; exact sizeE) (by rw [acells_size]; kernel_rfl) (by rw [acells_size]; omega) (by rw [acells_size]; omega) ?_; have MB := M.alloc (acells .i16 100 g) 37; have HB2 := Lib.hid (Blk.new W (acells .i16 100 g) 37))
      | (go_at_call 28; refine (checkBirds1 f hf n hn F hF g hg A d cp W.heap.size 37 _ (T.out.later MB.below) (S.out.later MB.below) (HI.out.later MB.below) HB2.out).mono ?_; rintro e W2 ⟨rfl, hb⟩; rw [HOK.out]; simp only [errIf, Bool.false_eq_true, if_false, if_true]; have M2 := MB.call hb; clear hb HB2))
    have MI : Mem w W2 [⟨w.heap.size, fcells f, 35⟩, ⟨w.heap.size + 1, acells .i16 100 g, 37⟩, ⟨w.heap.size + 1 + 1, acells .u64 2 (fun _ => 0), 32⟩] := Mem.init (L := [⟨w.heap.size, fcells f, 35⟩, ⟨w.heap.size + 1, acells .i16 100 g, 37⟩, ⟨w.heap.size + 1 + 1, acells .u64 2 (fun _ => 0), 32⟩]) M2
    clear M2
    go_upto_region 5 with (first
      | (refine wpList_load_part rfl 35 _ rfl w.heap.size 0 rfl (fcells f) _ (MI.at 0 rfl).whole Tryd.underlying35 rfl (by rw [fcells_size]; exact sizeFd) ?_)
      | (go_at_call 35; refine (HCK.out _ (S.out.later MI.below)).mono ?_; rintro e W3 ⟨rfl, hb⟩; have M3 := MI.call hb; clear hb; have M4 := M3.alloc #[.int .u64 0, .int .u64 0] 32)
      | (refine wpList_store_row rfl 32 _ _ rfl W3.heap.size (acells .u64 2 (K 0)) rfl rfl 32 _ (M4.at 3 rfl) (by rw [acells_size]; exact sizeC) (by rw [acells_size]; rfl) (acells_one _ _ _) ?_))
    have M5 := M4.row 3 rfl (acells .u64 2 (K 0))
    obtain ⟨ob, hob⟩ : ∃ ob, ob = W3.heap.size := ⟨_, rfl⟩
    rw [← hob] at M5 ⊢
    generalize World.setRow _ _ _ = W5 at M5 ⊢
    have M6 : Mem w W5 [⟨w.heap.size, fcells f, 35⟩, ⟨w.heap.size + 1, acells .i16 100 g, 37⟩, ⟨w.heap.size + 1 + 1, acells .u64 2 (fun _ => 0), 32⟩, ⟨ob, acells .u64 2 (K 0), 32⟩] := M5
    have HM := Lib.hid M6
    clear hob M3 M4 M5 M6 MI
    go_wp2_with fail
    go_loopw [12, 30] (fun _ i wr => ∃ k : Nat, k ≤ n ∧ i = .int .i64 k ∧ Hid (Mem w wr [⟨w.heap.size, fcells f, 35⟩, ⟨w.heap.size + 1, acells .i16 100 g, 37⟩, ⟨w.heap.size + 1 + 1, acells .u64 2 (fun _ => 0), 32⟩, ⟨ob, acells .u64 2 (K k), 32⟩])) (fun _ i _ => n - (intOf i).toNat)
    case atStart => exact ⟨0, by omega, rfl, HM⟩
    case round =>
      clear HM
      obtain ⟨k, hk, rfl, hM⟩ := hrel
      by_cases hlt : k < n
      · have hrg : wr.rangeAt d (k * 6) (flc (F k)).toList := by
          have h := (HI.out.later hM.out.below) k hlt
          rw [Nat.zero_add] at h
          exact h
        have HRG := Lib.hid hrg
        have HCW := Lib.hid (HCF.out k hlt)
        have hst := HST.out k
        have HNK := Lib.hid (HN.out k)
        obtain ⟨a, ha⟩ : ∃ a, F k = a := ⟨_, rfl⟩
        obtain ⟨x, hx⟩ : ∃ x, wantSet f (wldQ f g (F k)) 100 = x := ⟨_, rfl⟩
        have HUX : Hid (U64 x) := Lib.hid (by rw [← hx]; exact want_u64 f _ 100)
        rw [hx] at HCW hst
        rw [ha] at HCW HRG
        obtain ⟨y, hy⟩ : ∃ y, K k = y := ⟨_, rfl⟩
        rw [hy] at hst HNK hM
        have HSTK := Lib.hid hst
        clear hst ha hx hy hrg
        have MZ := hM.out.alloc #[.int .i16 0, .int .i16 0, .int .i16 0, .int .i16 0, .int .i16 0, .int .i8 0] 39
        go_upto_region 8 with (first
          | (refine wpList_load_part rfl 39 _ rfl d (k * 6) rfl (flc a) _ HRG.out Tryd.underlying39 rfl (by kernel_rfl) ?_)
          | (refine wpList_store_row rfl 39 _ _ rfl wr.heap.size (flc a) rfl rfl 39 _ (MZ.at 4 rfl) (by kernel_rfl) rfl (by simp [flc, Value.oneCell']) ?_))
        have M4 := MZ.row 4 rfl (flc a)
        obtain ⟨fb, hfb⟩ : ∃ fb, fb = wr.heap.size := ⟨_, rfl⟩
        rw [← hfb] at M4 ⊢
        generalize World.setRow _ _ _ = W6 at M4 ⊢
        clear hfb MZ
        have M7 : Mem w W6 [⟨w.heap.size, fcells f, 35⟩, ⟨w.heap.size + 1, acells .i16 100 g, 37⟩, ⟨w.heap.size + 1 + 1, acells .u64 2 (fun _ => 0), 32⟩, ⟨ob, acells .u64 2 (y), 32⟩, ⟨fb, flc a, 39⟩] := M4
        refine wp_region_rel_tail 6 (DL [dV (.agg (acells .u64 2 (y))), dV (.agg (fcells f)), dV (.agg (acells .i16 100 g)), dV (.agg (flc a)), dV (.agg (acells .u64 2 x)), dV (.agg (acells .u64 2 (joinC .andNot y x)))]) (fun w' => Mem w w' [⟨w.heap.size, fcells f, 35⟩, ⟨w.heap.size + 1, acells .i16 100 g, 37⟩, ⟨w.heap.size + 1 + 1, acells .u64 2 (fun _ => 0), 32⟩, ⟨ob, acells .u64 2 (y), 32⟩, ⟨fb, flc a, 39⟩]) (by kernel_rfl) (by kernel_rfl) grows_mem
          (stays_DL (fun d hd => by
            simp only [List.mem_cons, List.mem_nil_iff, or_false] at hd
            rcases hd with rfl | rfl | rfl | rfl | rfl | rfl <;> exact stay_V)) M7.drew ?_
        refine rel_load 32 _ rfl (ob) (0) rfl (acells .u64 2 (y)) _ rfl rfl (fun w' hw' => (hw'.at 3 rfl).whole) Tryd.underlying32 rfl (by rw [acells_size]; exact sizeC) (fun _ => ?_)
        simp only [Act.put, List.setIfInBounds_toArray, List.set_cons_zero, List.set_cons_succ]
        refine rel_load 35 _ rfl (w.heap.size) (0) rfl (fcells f) _ rfl rfl (fun w' hw' => (hw'.at 0 rfl).whole) Tryd.underlying35 rfl (by rw [fcells_size]; exact sizeFd) (fun _ => ?_)
        simp only [Act.put, List.setIfInBounds_toArray, List.set_cons_zero, List.set_cons_succ]
        refine rel_load 37 _ rfl (w.heap.size + 1) 0 rfl (acells .i16 100 g) _ rfl rfl (fun w' hw' => (hw'.at 1 rfl).whole) Tryd.underlying37 rfl (by rw [acells_size]; exact sizeE) (fun _ => ?_)
        simp only [Act.put, List.setIfInBounds_toArray, List.set_cons_zero, List.set_cons_succ]
        refine rel_load 39 _ rfl fb 0 rfl (flc a) _ rfl rfl (fun w' hw' => (hw'.at 4 rfl).whole) Tryd.underlying39 rfl (by kernel_rfl) (fun _ => ?_)
        simp only [Act.put, List.setIfInBounds_toArray, List.set_cons_zero, List.set_cons_succ]
        refine rel_call (.agg (acells .u64 2 x)) 30 #[.agg (fcells f), .agg (acells .i16 100 g), vFlock a] rfl rfl rfl rfl (enters_of Tryd.func30 (by kernel_rfl) rfl) (fun w' _ => HCW.out w') (fun _ => ?_)
        simp only [Act.put, List.setIfInBounds_toArray, List.set_cons_zero, List.set_cons_succ]
        refine rel_call (.agg (acells .u64 2 (joinC .andNot y x))) 36 #[.agg (acells .u64 2 y), .agg (acells .u64 2 x)] rfl rfl rfl rfl (enters_of Tryd.func36 (by kernel_rfl) rfl) (fun w' _ => withoutF y x HNK.out HUX.out w') (fun _ => ?_)
        simp only [Act.put, List.setIfInBounds_toArray, List.set_cons_zero, List.set_cons_succ]
        refine rel_nil (fun W8 inv => ?_)
        have M8 := inv.cls
        clear inv
        change wpList _ _ _ (_ :: []) _ _
        refine wpList_store_row rfl 32 _ _ rfl ob (acells .u64 2 (joinC .andNot y x)) rfl rfl 32 _ (M8.at 3 rfl) (by rw [acells_size]; exact sizeC) (by simp only [acells_size]) (acells_one _ _ _) ?_
        have M9 := Mem.init (L := [⟨w.heap.size, fcells f, 35⟩, ⟨w.heap.size + 1, acells .i16 100 g, 37⟩, ⟨w.heap.size + 1 + 1, acells .u64 2 (fun _ => 0), 32⟩, ⟨ob, acells .u64 2 (joinC .andNot y x), 32⟩]) (M8.row 3 rfl (acells .u64 2 (joinC .andNot y x)))
        clear M8 M7 M4
        go_wp2_with fail
        go_roundw
        case rel => exact ⟨k + 1, by omega, by go_num, by rw [HSTK.out]; exact Lib.hid M9⟩
        case measure => simp [intOf]; omega
      · obtain rfl : k = n := by omega
        obtain ⟨y, hy⟩ : ∃ y, K k = y := ⟨_, rfl⟩
        have HY := Lib.hid hy
        rw [hy] at hM
        clear hy
        go_wp2_with (first
          | (refine wpList_load_part rfl 32 _ rfl ob 0 rfl (acells .u64 2 y) _ (hM.out.at 3 rfl).whole Tryd.underlying32 rfl (by rw [acells_size]; exact sizeC) ?_)
          | (refine wpList_store_row rfl 32 _ _ rfl (w.heap.size + 1 + 1) (acells .u64 2 (y)) rfl rfl 32 _ (hM.out.at 2 rfl) (by rw [acells_size]; exact sizeC) (by simp only [acells_size]) (acells_one _ _ _) ?_))
        have M5 := hM.out.row 2 rfl (acells .u64 2 y)
        exact bodyPost_ret (results_row_tmp rfl _ _ (w.heap.size + 1 + 1) 32 _ _ _ rfl (M5.at 2 rfl) Tryd.underlying32 rfl (by rw [acells_size]; exact sizeC)) rfl ⟨by rw [HY.out]; rfl, M5.below⟩
end Go.Proofs.YtaccpnpoeikaaaaDoor
