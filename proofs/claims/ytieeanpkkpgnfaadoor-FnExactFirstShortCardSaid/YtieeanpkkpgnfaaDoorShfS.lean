/-
  Shifts: shiftsFor.
-/
import Derived.Test.YtieeanpkkpgnfaaDoorClone
import Derived.Outline
namespace Go.Proofs.YtieeanpkkpgnfaaDoor
open Go Go.RowKit

abbrev noSh : Array Value := #[.slice none 0 0, .int .i64 0]
/-- What shiftsFor hands back. -/
def ShOut (A : Nat → Addr) (g : Nat → Int) (n : Nat) (L : Int) (h : Nat → Int) (m : Nat) (lo : Nat) (e : Ending) (w' : World) : Prop :=
  (shOk g n L h m = true ∧ ∃ v, e = .returned (.tuple #[.agg #[v, .int .i64 L], .nilIface]) ∧ Own lo w' v n (missing g L h m)) ∨ (shOk g n L h m = false ∧ e = .returned (.tuple #[.agg noSh, errVal (A 2)]))
set_option maxRecDepth 100000 in
set_option maxHeartbeats 4000000 in
theorem shiftsFor_any (n : Nat) (hn : n ≤ 2 ^ 40) (g : Nat → Int) (hg : Wf64 n g) (L : Int) (hL : -9223372036854775808 ≤ L ∧ L ≤ 9223372036854775807) (m : Nat) (hm : m ≤ 2 ^ 40) (h : Nat → Int) (hh : Wf64 m h) (b c b2 c2 : Nat) (A : Nat → Addr) (w : World) (I : InI w b 0 n g) (I2 : InI w b2 0 m h) (S0 : Sents w A) :
    Calls Tryd.prog 23 #[.slice (some ⟨b, 0, none⟩) n c, .int .i64 L, .slice (some ⟨b2, 0, none⟩) m c2] w fun e w' => ShOut A g n L h m w.heap.size e w' ∧ Below w.heap.size w w' := by
  have S : Hid (Sents w A) := Lib.hid S0
  have HI := Lib.hid I
  have HI2 := Lib.hid I2
  have HG := Lib.hid hg
  have HH := Lib.hid hh
  obtain ⟨hL1, hL2⟩ := hL
  clear S0 I I2 hg hh
  go_enter Tryd.func23, Tryd.ntmps23
  go_upto_region 1 with (fail)
  obtain ⟨W, hW, M⟩ := open1 w noSh 43
  rw [hW]; clear hW
  have HM := Lib.hid M
  clear M
  by_cases hh0 : headOk n L = true
  · have hq : n ≤ 48 ∧ 1 ≤ L ∧ L ≤ 48 := by
      simp only [headOk, Bool.and_eq_true, decide_eq_true_eq, inB_iff] at hh0
      omega
    have HH0 := Lib.hid hh0
    clear hh0
    obtain ⟨hn48, hl1, hl2⟩ := hq
    have t1 : decide (48 < (n : Int)) = false := decide_eq_false (by omega)
    have t2 : decide (L < 1) = false := decide_eq_false (by omega)
    have t3 : decide (48 < L) = false := decide_eq_false (by omega)
    go_wp2_with fail
    clear t1 t2 t3
    go_loop [28] (fun i => ∃ k : Nat, k ≤ n ∧ i = .int .i64 k ∧ Hid (∀ j, j < k → inB (g j) 0 20 = true)) (fun i => n - (intOf i).toNat)
    case atStart => exact ⟨0, by omega, rfl, Lib.hid (fun i hi => by omega)⟩
    case round =>
      obtain ⟨k, hk, rfl, hall⟩ := hrel
      by_cases hlt : k < n
      · have d0 := (HI.out.later HM.out.below) k hlt
        rw [Nat.zero_add] at d0
        obtain ⟨g1, g2⟩ := HG.out k hlt
        cases hq : inB (g k) 0 20 with
        | true =>
          obtain ⟨q1, q2⟩ := inB_iff.1 hq
          have t1 : decide (g k < 0) = false := decide_eq_false (by omega)
          have t2 : decide (20 < g k) = false := decide_eq_false (by omega)
          go_wp2_with fail
          go_round
          case rel => exact ⟨k + 1, by omega, by go_num, Lib.hid (upto_succ hall.out hq)⟩
          case measure => simp [intOf]; omega
        | false =>
          have hno : Hid (shOk g n L h m = false) := Lib.hid (by unfold shOk needOk; rw [allTo_false hlt hq, Bool.and_false, Bool.false_and])
          have v2 := (S.out.later HM.out.below).v2
          have v2a : (W.setCell ⟨w.heap.size, 0, none⟩ (.slice none 0 0)).cell? ⟨0, 0, none⟩ = some (errVal (A 2)) := (S.out.later (HM.out.below.setCell (p := ⟨w.heap.size, 0, none⟩) (Nat.le_refl _) _)).v2
          have c0 := (HM.out.at 0 rfl).cell (i := 0) rfl
          have c1 := (HM.out.at 0 rfl).cell (i := 1) rfl
          have e0 := (HM.out.at 0 rfl).free 0
          have e1 := (HM.out.at 0 rfl).free 1
          have hM9 := Lib.hid ((HM.out.set 0 0 (.slice none 0 0) rfl noSh rfl).set 0 1 (.int .i64 0) rfl noSh rfl).drew
          by_cases t1 : g k < 0
          · go_wp2_with fail
            go_region
            go_wp2_with fail
            exact bodyPost_ret (results_row_tmp rfl _ _ (w.heap.size) 43 _ _ _ rfl (hM9.out.at 0 rfl) Tryd.underlying43 rfl (by kernel_rfl)) rfl ⟨.inr ⟨hno.out, rfl⟩, hM9.out.below⟩
          · have t2 : 20 < g k := by
              by_cases x : 20 < g k
              · exact x
              · rw [inB_iff.2 ⟨by omega, by omega⟩] at hq; cases hq
            have t1' : decide (g k < 0) = false := decide_eq_false t1
            go_wp2_with fail
            go_region
            go_wp2_with fail
            exact bodyPost_ret (results_row_tmp rfl _ _ (w.heap.size) 43 _ _ _ rfl (hM9.out.at 0 rfl) Tryd.underlying43 rfl (by kernel_rfl)) rfl ⟨.inr ⟨hno.out, rfl⟩, hM9.out.below⟩
      · obtain rfl : k = n := by omega
        have hne : Hid (needOk g k = true) := Lib.hid (allTo_iff.2 hall.out)
        go_upto_region 10 with (go_at_call 33; refine (clone_any k hn g b c _ (HI.out.later HM.out.below)).mono ?_; rintro e W1 ⟨v', rfl, ⟨q, c', rfl, hq⟩, hb⟩; have M1 := Lib.hid (HM.out.call hb); have O1 := Lib.hid hq; have hz := hb.size; have hr := (HM.out.at 0 rfl).lt; clear hq hb)
        have M2 := Lib.hid (M1.out.alloc #[.slice q k c', .int .i64 L] 43)
        have O2 : Hid (k = 0 ∨ ∃ b', q = some ⟨b', 0, none⟩ ∧ W.heap.size ≤ b' ∧ b' < W1.heap.size ∧ HB (W1.alloc (.cells #[.slice q k c', .int .i64 L] 43)) b' k g) := Lib.hid (O1.out.imp id (fun ⟨b', e1, e2, e3⟩ => ⟨b', e1, e2, e3.lt, e3.later ((Below.refl _ _).alloc (Nat.le_refl _) _)⟩))
        clear M1 O1
        obtain ⟨sb, hsb⟩ : ∃ sb, W1.heap.size = sb := ⟨_, rfl⟩
        have HSB := Lib.hid hsb
        rw [hsb] at M2 O2 hz ⊢
        clear hsb
        generalize W1.alloc _ = W2 at M2 O2 ⊢
        go_wp2_with fail
        go_loopw [47] (fun i wr => ∃ j : Nat, j ≤ m ∧ i = .int .i64 j ∧ Hid (∀ x, x < j → inB (h x) 0 ((k : Int) - 1) = true) ∧ Hid (Below w.heap.size w wr) ∧ Hid (Blk wr w.heap.size noSh 43) ∧ Hid (Blk wr sb #[.slice q k c', .int .i64 L] 43) ∧ Hid (k = 0 ∨ ∃ b', q = some ⟨b', 0, none⟩ ∧ W.heap.size ≤ b' ∧ b' < sb ∧ HB wr b' k (missing g L h j))) (fun i _ => m - (intOf i).toNat)
        case atStart => exact ⟨0, by omega, rfl, Lib.hid (fun i hi => by omega), Lib.hid M2.out.below, Lib.hid (M2.out.at 0 rfl), Lib.hid (M2.out.at 1 rfl), Lib.hid (O2.out.imp id (fun ⟨b', e1, e2, e3, e4⟩ => ⟨b', e1, e2, e3, e4.congr (fun i _ => by unfold missing there; rw [Int.sub_zero])⟩))⟩
        case round =>
          clear M2 O2
          obtain ⟨j, hj, rfl, hsl, hbel, hR, hX, hO⟩ := hrel
          have x0 := hX.out.cell (i := 0) rfl
          have x1 := hX.out.cell (i := 1) rfl
          by_cases hlt2 : j < m
          · have d0 := (HI2.out.later hbel.out) j hlt2
            rw [Nat.zero_add] at d0
            cases hq : inB (h j) 0 ((k : Int) - 1) with
            | true =>
              obtain ⟨x, hx⟩ : ∃ x : Nat, h j = (x : Int) := ⟨(h j).toNat, by have := (inB_iff.1 hq).1; omega⟩
              have hxk : x < k := by have := (inB_iff.1 hq).2; omega
              obtain ⟨b', rfl, hb1, hb2, hHB⟩ : ∃ b', q = some ⟨b', 0, none⟩ ∧ W.heap.size ≤ b' ∧ b' < sb ∧ HB wr b' k (missing g L h j) := by
                rcases hO.out with h0 | h0
                · omega
                · exact h0
              have HHB := Lib.hid hHB
              have HQ := Lib.hid hq
              have HX := Lib.hid hx
              clear hHB hq hO
              rw [hx] at d0
              clear hx
              go_wp2_with (first
                | (go_at_call 34; refine (has_yes _ k c' x hxk _).mono ?_; rintro e w' ⟨rfl, rfl⟩)
                | (go_at_call 27; refine (begin_any b' k c' hn48 (missing g L h j) x hxk L ⟨hl1, hl2⟩ 1 (by omega) (fun i hi => by
                    have h1 := there_in L h i j
                    have h2 := inB_iff.1 ((allTo_iff.1 hne.out) i hi)
                    unfold missing; omega) _ HHB.out).mono ?_; rintro e w3 ⟨⟨ev, rfl⟩, hgr, hHB3⟩))
              go_roundw
              case rel =>
                have hwz := hbel.out.size
                refine ⟨j + 1, by omega, by go_num, Lib.hid (upto_succ hsl.out HQ.out), Lib.hid (below_of_grown hbel.out hbel.out.size (by omega) hgr.out), Lib.hid (blk_grown hR.out hgr.out (by omega)), Lib.hid (blk_grown hX.out hgr.out (by omega)), Lib.hid (.inr ⟨b', rfl, hb1, hb2, hHB3.out.congr (fun i hi => ?_)⟩)⟩
                unfold behind missing
                rw [there, HX.out]
                by_cases hp : helpB L x i = true
                · rw [if_pos hp, if_pos hp]; omega
                · rw [if_neg hp, if_neg hp]; omega
              case measure => simp [intOf]; omega
            | false =>
              have hno : Hid (shOk g k L h m = false) := Lib.hid (by unfold shOk startOk; rw [allTo_false hlt2 hq, Bool.and_false])
              have hx : h j < 0 ∨ (k : Int) ≤ h j := by
                by_cases x : h j < 0 ∨ (k : Int) ≤ h j
                · exact x
                · rw [inB_iff.2 (by omega)] at hq; cases hq
              have v2 := (S.out.later hbel.out).v2
              have v2a : (wr.setCell ⟨w.heap.size, 0, none⟩ (.slice none 0 0)).cell? ⟨0, 0, none⟩ = some (errVal (A 2)) := (S.out.later (hbel.out.setCell (p := ⟨w.heap.size, 0, none⟩) (Nat.le_refl _) _)).v2
              have c0 := hR.out.cell (i := 0) rfl
              have c1 := hR.out.cell (i := 1) rfl
              have e0 := hR.out.free 0
              have e1 := hR.out.free 1
              have hM9 := Lib.hid ((hR.out.set 0 (.slice none 0 0)).set 1 (.int .i64 0)).drew
              have hB9 := Lib.hid ((hbel.out.setCell (p := ⟨w.heap.size, 0, none⟩) (Nat.le_refl _) (.slice none 0 0)).setCell (p := ⟨w.heap.size, 1, none⟩) (Nat.le_refl _) (.int .i64 0)).drew
              clear hq
              go_wp2_with (go_at_call 34; refine (has_no _ k c' (h j) hx _).mono ?_; rintro e w' ⟨rfl, rfl⟩)
              go_region
              go_wp2_with fail
              exact bodyPost_ret (results_row_tmp rfl _ _ (w.heap.size) 43 _ _ _ rfl hM9.out Tryd.underlying43 rfl (by kernel_rfl)) rfl ⟨.inr ⟨hno.out, rfl⟩, hB9.out⟩
          · obtain rfl : j = m := by omega
            have hyes : Hid (shOk g k L h j = true) := Lib.hid (by unfold shOk; rw [HH0.out, hne.out, show startOk h j k = true from allTo_iff.2 hsl.out]; rfl)
            have c0 := hR.out.cell (i := 0) rfl
            have c1 := hR.out.cell (i := 1) rfl
            have e0 := hR.out.free 0
            have e1 := hR.out.free 1
            have hM9 := Lib.hid ((hR.out.set 0 (.slice q k c')).set 1 (.int .i64 L))
            have hB9 := Lib.hid ((hbel.out.setCell (p := ⟨w.heap.size, 0, none⟩) (Nat.le_refl _) (.slice q k c')).setCell (p := ⟨w.heap.size, 1, none⟩) (Nat.le_refl _) (.int .i64 L))
            have hO9 : Hid (Own w.heap.size ((wr.setCell ⟨w.heap.size, 0, none⟩ (.slice q k c')).setCell ⟨w.heap.size, 1, none⟩ (.int .i64 L)) (.slice q k c') k (missing g L h j)) := Lib.hid ⟨q, c', rfl, hO.out.imp id (fun ⟨b', e1, e2, e3, cs, e4, e5, e6⟩ => ⟨b', e1, by omega, cs, (e4.setOther _ (show b' ≠ w.heap.size by omega)).setOther _ (show b' ≠ w.heap.size by omega), e5, e6⟩)⟩
            clear x0 x1
            have x0 := hX.out.cell (i := 0) rfl
            have x1 := hX.out.cell (i := 1) rfl
            go_wp2_with fail
            exact bodyPost_ret (results_row_tmp rfl _ _ (w.heap.size) 43 _ _ _ rfl hM9.out Tryd.underlying43 rfl (by kernel_rfl)) rfl ⟨.inl ⟨hyes.out, _, rfl, hO9.out⟩, hB9.out⟩
  · have hno : Hid (shOk g n L h m = false) := Lib.hid (by unfold shOk; rw [Bool.eq_false_iff.2 hh0, Bool.false_and, Bool.false_and])
    have v2 := (S.out.later HM.out.below).v2
    have v2a : (W.setCell ⟨w.heap.size, 0, none⟩ (.slice none 0 0)).cell? ⟨0, 0, none⟩ = some (errVal (A 2)) := (S.out.later (HM.out.below.setCell (p := ⟨w.heap.size, 0, none⟩) (Nat.le_refl _) _)).v2
    have c0 := (HM.out.at 0 rfl).cell (i := 0) rfl
    have c1 := (HM.out.at 0 rfl).cell (i := 1) rfl
    have e0 := (HM.out.at 0 rfl).free 0
    have e1 := (HM.out.at 0 rfl).free 1
    have hM9 := Lib.hid ((HM.out.set 0 0 (.slice none 0 0) rfl noSh rfl).set 0 1 (.int .i64 0) rfl noSh rfl).drew
    have hx : 48 < n ∨ L < 1 ∨ 48 < L := by
      simp only [headOk, Bool.and_eq_true, decide_eq_true_eq, inB_iff] at hh0
      omega
    clear hh0
    have t0 : (decide (48 < (n : Int)) || decide (L < 1) || decide (48 < L)) = true := by
      simp only [Bool.or_eq_true, decide_eq_true_eq]; omega
    by_cases h1 : 48 < n
    · go_wp2_with fail
      go_region
      go_wp2_with fail
      exact bodyPost_ret (results_row_tmp rfl _ _ (w.heap.size) 43 _ _ _ rfl (hM9.out.at 0 rfl) Tryd.underlying43 rfl (by kernel_rfl)) rfl ⟨.inr ⟨hno.out, rfl⟩, hM9.out.below⟩
    · have t1 : decide (48 < (n : Int)) = false := decide_eq_false (by omega)
      by_cases h2 : L < 1
      · go_wp2_with fail
        go_region
        go_wp2_with fail
        exact bodyPost_ret (results_row_tmp rfl _ _ (w.heap.size) 43 _ _ _ rfl (hM9.out.at 0 rfl) Tryd.underlying43 rfl (by kernel_rfl)) rfl ⟨.inr ⟨hno.out, rfl⟩, hM9.out.below⟩
      · have t2 : decide (L < 1) = false := decide_eq_false h2
        have t3 : 48 < L := by omega
        go_wp2_with fail
        go_region
        go_wp2_with fail
        exact bodyPost_ret (results_row_tmp rfl _ _ (w.heap.size) 43 _ _ _ rfl (hM9.out.at 0 rfl) Tryd.underlying43 rfl (by kernel_rfl)) rfl ⟨.inr ⟨hno.out, rfl⟩, hM9.out.below⟩
end Go.Proofs.YtieeanpkkpgnfaaDoor
