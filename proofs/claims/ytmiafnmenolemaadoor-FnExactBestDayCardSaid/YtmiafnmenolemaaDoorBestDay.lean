/-
  BestDay: the model's, the program's.
-/
import Derived.Test.YtmiafnmenolemaaDoorDayB
namespace Go.Proofs.YtmiafnmenolemaaDoor
open Go Go.RowKit

set_option maxRecDepth 100000 in
set_option maxHeartbeats 1000000 in
theorem specBestDay (n : Nat) (hn : n ≤ 2 ^ 40) (F : Nat → Nat → Int) (hF : ∀ i, i < n → WfPl (F i)) (b c : Nat) (x d : Int) (w : World) (I : InS w b 0 n ksPlot F) :
    Calls Tryd.prog 17 #[.slice (some ⟨b, 0, none⟩) n c, .int .i64 x, .int .i64 d] w fun e w' => e = .returned (.tuple #[.int .i64 (onPlot n F (inB x 0 ((n : Int) - 1) && inB d 1 20) (bestD (F x.toNat) d.toNat : Int)), .int .i64 (onPlot n F (inB x 0 ((n : Int) - 1) && inB d 1 20) (worthA (F x.toNat) (bestD (F x.toNat) d.toNat))), .int .i64 (plotsAsk n F (inB x 0 ((n : Int) - 1) && inB d 1 20))]) ∧ Below w.heap.size w w' := by
  have HI := Lib.hid I
  have HF := Lib.hid hF
  clear I hF
  obtain ⟨q1, h1⟩ : ∃ q, inB x 0 ((n : Int) - 1) = q := ⟨_, rfl⟩
  obtain ⟨q2, h2⟩ : ∃ q, inB d 1 20 = q := ⟨_, rfl⟩
  have H1 := Lib.hid h1
  have H2 := Lib.hid h2
  rw [h1, h2]
  clear h1 h2
  obtain ⟨q, hq⟩ : ∃ q, (q1 && q2) = q := ⟨_, rfl⟩
  have hor : q = true → q1 = true ∧ q2 = true := fun e => by rw [e] at hq; simpa using hq
  rw [hq]
  obtain ⟨p, hp⟩ : ∃ p, plotsOk n F = p := ⟨_, rfl⟩
  have HP := Lib.hid hp
  have hpv : Hid (plotsOk n F = p) := HP
  cases p with
  | false =>
    have e1 : Hid (∀ v, onPlot n F q v = 0) := Lib.hid (fun v => by unfold onPlot; rw [hp]; rfl)
    have e2 : Hid (∀ q, plotsAsk n F q = 1) := Lib.hid (fun q => plotsAsk_no hp)
    rw [e1.out, e1.out, e2.out]
    clear hor hp
    cases q1
    all_goals
      go_enter Tryd.func17, Tryd.ntmps17
      go_wp2_with (first
        | (go_at_call 37; refine (l07Index_any _ n c hn x _).mono ?_; rintro e w' ⟨rfl, rfl⟩; rw [H1.out])
        | (go_at_call 43; refine (l07Days_any _ _).mono ?_; rintro e w' ⟨rfl, rfl⟩; rw [H2.out])
        | (go_at_call 36; refine (l07Asked_any n hn F HF.out b c _ _ HI.out).mono ?_; rintro e w2 ⟨rfl, hb2⟩; rw [e2.out]))
      go_ret3
      exact ⟨rfl, hb2⟩
  | true =>
    cases q with
    | false =>
      have e1 : Hid (∀ v, onPlot n F false v = 0) := Lib.hid (fun v => by unfold onPlot; rw [Bool.and_false]; rfl)
      have e2 : Hid (plotsAsk n F false = 2) := Lib.hid (plotsAsk_yes hp)
      rw [e1.out, e1.out, e2.out]
      clear hor hp
      cases q1 with
      | false =>
        clear hq
        go_enter Tryd.func17, Tryd.ntmps17
        go_wp2_with (first
          | (go_at_call 37; refine (l07Index_any _ n c hn x _).mono ?_; rintro e w' ⟨rfl, rfl⟩; rw [H1.out])
          | (go_at_call 36; refine (l07Asked_any n hn F HF.out b c _ _ HI.out).mono ?_; rintro e w2 ⟨rfl, hb2⟩; rw [e2.out]))
        go_ret3
        exact ⟨rfl, hb2⟩
      | true =>
        obtain rfl : q2 = false := by simpa using hq
        clear hq
        go_enter Tryd.func17, Tryd.ntmps17
        go_wp2_with (first
          | (go_at_call 37; refine (l07Index_any _ n c hn x _).mono ?_; rintro e w' ⟨rfl, rfl⟩; rw [H1.out])
          | (go_at_call 43; refine (l07Days_any _ _).mono ?_; rintro e w' ⟨rfl, rfl⟩; rw [H2.out])
          | (go_at_call 36; refine (l07Asked_any n hn F HF.out b c _ _ HI.out).mono ?_; rintro e w2 ⟨rfl, hb2⟩; rw [e2.out]))
        go_ret3
        exact ⟨rfl, hb2⟩
    | true =>
      obtain ⟨rfl, rfl⟩ := hor rfl
      have hx := inB_iff.1 H1.out
      obtain ⟨y, rfl⟩ : ∃ y : Nat, x = y := ⟨x.toNat, by omega⟩
      have hyn : y < n := by omega
      have hd := inB_iff.1 H2.out
      have e1 : Hid (∀ v, onPlot n F true v = v) := Lib.hid (fun v => by unfold onPlot; rw [hp]; rfl)
      have e2 : Hid (plotsAsk n F true = 0) := Lib.hid (plotsAsk_yes hp)
      have hok := Lib.hid ((plotsOk_iff.1 hp).1 y hyn)
      rw [e1.out, e1.out, e2.out]
      clear hp hor hq
      obtain ⟨m, rfl⟩ : ∃ m : Nat, d = m := ⟨d.toNat, by omega⟩
      simp only [Int.toNat_natCast]
      obtain ⟨v0, hv0⟩ : ∃ v, bestD (F y) m = v := ⟨_, rfl⟩
      have HV0 := Lib.hid hv0
      rw [hv0]
      clear hv0
      obtain ⟨v, hv⟩ : ∃ v, worthA (F y) v0 = v := ⟨_, rfl⟩
      have HV := Lib.hid hv
      rw [hv]
      clear hv
      go_enter Tryd.func17, Tryd.ntmps17
      go_wp2_with (first
        | (go_at_call 37; refine (l07Index_any _ n c hn y _).mono ?_; rintro e w' ⟨rfl, rfl⟩; rw [H1.out])
        | (go_at_call 43; refine (l07Days_any _ _).mono ?_; rintro e w' ⟨rfl, rfl⟩; rw [H2.out])
        | (go_at_call 36; refine (l07Asked_any n hn F HF.out b c _ _ HI.out).mono ?_; rintro e w2 ⟨rfl, hb2⟩; rw [e2.out]; obtain ⟨c0, c1, c2, c3⟩ := row_at (HI.out.later hb2) hyn)
        | (go_at_call 44; refine (l07Best_any (F y) hok.out m (by omega) _).mono ?_; rintro e w3 ⟨rfl, hb3⟩; rw [HV0.out, HV.out]))
      go_ret3
      exact ⟨rfl, hb2.trans (hb3.mono hb2.size)⟩
set_option maxRecDepth 100000 in
set_option maxHeartbeats 2000000 in
theorem implBestDay (n : Nat) (hn : n ≤ 2 ^ 40) (F : Nat → Nat → Int) (hF : ∀ i, i < n → WfPl (F i)) (b c : Nat) (x d : Int) (A : Nat → Addr) (w : World) (I : InS w b 0 n ksPlot F) (S0 : Sents w A) :
    Calls Tryd.prog 18 #[.slice (some ⟨b, 0, none⟩) n c, .int .i64 x, .int .i64 d] w fun e w' => e = .returned (.tuple #[.int .i64 (onPlot n F (inB x 0 ((n : Int) - 1) && inB d 1 20) (bestD (F x.toNat) d.toNat : Int)), .int .i64 (onPlot n F (inB x 0 ((n : Int) - 1) && inB d 1 20) (worthA (F x.toNat) (bestD (F x.toNat) d.toNat))), .int .i64 (plotsAsk n F (inB x 0 ((n : Int) - 1) && inB d 1 20))]) ∧ Below w.heap.size w w' := by
  have S : Hid (Sents w A) := Lib.hid S0
  clear S0
  have HI := Lib.hid I
  have HF := Lib.hid hF
  clear I hF
  have hif := isIfaceErr
  obtain ⟨q1, h1⟩ : ∃ q, inB x 0 ((n : Int) - 1) = q := ⟨_, rfl⟩
  obtain ⟨q2, h2⟩ : ∃ q, inB d 1 20 = q := ⟨_, rfl⟩
  have H1 := Lib.hid h1
  have H2 := Lib.hid h2
  rw [h1, h2]
  clear h1 h2
  obtain ⟨p, hp⟩ : ∃ p, plotsOk n F = p := ⟨_, rfl⟩
  have HP := Lib.hid hp
  have HE : Hid (plotErr A n F x = if p = true then (if q1 = true then .nilIface else errVal (A 2)) else errVal (A 1)) := Lib.hid (by unfold plotErr; rw [hp, H1.out])
  cases p with
  | false =>
    have e1 : Hid (∀ v, onPlot n F (q1 && q2) v = 0) := Lib.hid (fun v => by unfold onPlot; rw [hp]; rfl)
    have e2 : Hid (∀ q, plotsAsk n F q = 1) := Lib.hid (fun q => plotsAsk_no hp)
    rw [e1.out, e1.out, e2.out]
    clear hp
    have HE2 : Hid (plotErr A n F x = errVal (A 1)) := Lib.hid HE.out
    clear HE
    go_enter Tryd.func18, Tryd.ntmps18
    go_wp2_with (first
      | (go_at_call 40; refine (checkPlot_any n hn F HF.out b c x A _ HI.out S.out).mono ?_; rintro e w2 ⟨rfl, hb2⟩; rw [HE2.out])
      | (go_at_call 41; refine (codeOf_err A 1 (by omega) (by omega) _ (S.out.later hb2)).mono ?_; rintro e w' ⟨rfl, rfl⟩))
    go_ret3
    exact ⟨rfl, hb2⟩
  | true =>
    cases q1 with
    | false =>
      have e1 : Hid (∀ v, onPlot n F (false && q2) v = 0) := Lib.hid (fun v => by unfold onPlot; rw [hp]; rfl)
      have e2 : Hid (plotsAsk n F (false && q2) = 2) := Lib.hid (plotsAsk_yes hp)
      rw [e1.out, e1.out, e2.out]
      clear hp
      have HE2 : Hid (plotErr A n F x = errVal (A 2)) := Lib.hid HE.out
      clear HE
      go_enter Tryd.func18, Tryd.ntmps18
      go_wp2_with (first
        | (go_at_call 40; refine (checkPlot_any n hn F HF.out b c x A _ HI.out S.out).mono ?_; rintro e w2 ⟨rfl, hb2⟩; rw [HE2.out])
        | (go_at_call 41; refine (codeOf_err A 2 (by omega) (by omega) _ (S.out.later hb2)).mono ?_; rintro e w' ⟨rfl, rfl⟩))
      go_ret3
      exact ⟨rfl, hb2⟩
    | true =>
    have HE2 : Hid (plotErr A n F x = .nilIface) := Lib.hid HE.out
    clear HE
    cases q2 with
    | false =>
      have e1 : Hid (∀ v, onPlot n F (true && false) v = 0) := Lib.hid (fun v => by unfold onPlot; rw [hp]; rfl)
      have e2 : Hid (plotsAsk n F (true && false) = 2) := Lib.hid (plotsAsk_yes hp)
      rw [e1.out, e1.out, e2.out]
      clear hp
      go_enter Tryd.func18, Tryd.ntmps18
      go_wp2_with (first
        | (go_at_call 40; refine (checkPlot_any n hn F HF.out b c x A _ HI.out S.out).mono ?_; rintro e w2 ⟨rfl, hb2⟩; rw [HE2.out]; have v2 := (S.out.later hb2).v2)
        | (go_at_call 45; refine (isDays_any _ _).mono ?_; rintro e w' ⟨rfl, rfl⟩; rw [H2.out])
        | (go_at_call 41; refine (codeOf_err A 2 (by omega) (by omega) _ (S.out.later hb2)).mono ?_; rintro e w' ⟨rfl, rfl⟩))
      go_ret3
      exact ⟨rfl, hb2⟩
    | true =>
      have hx := inB_iff.1 H1.out
      obtain ⟨y, rfl⟩ : ∃ y : Nat, x = y := ⟨x.toNat, by omega⟩
      have hyn : y < n := by omega
      have hd := inB_iff.1 H2.out
      obtain ⟨hd1, hd2⟩ := hd
      have e1 : Hid (∀ v, onPlot n F (true && true) v = v) := Lib.hid (fun v => by unfold onPlot; rw [hp]; rfl)
      have e2 : Hid (plotsAsk n F (true && true) = 0) := Lib.hid (plotsAsk_yes hp)
      have hok := Lib.hid ((plotsOk_iff.1 hp).1 y hyn)
      rw [e1.out, e1.out, e2.out]
      clear hp
      obtain ⟨m, rfl⟩ : ∃ m : Nat, d = m := ⟨d.toNat, by omega⟩
      simp only [Int.toNat_natCast]
      obtain ⟨v0, hv0⟩ : ∃ v, bestD (F y) m = v := ⟨_, rfl⟩
      have HV0 := Lib.hid hv0
      rw [hv0]
      clear hv0
      obtain ⟨v, hv⟩ : ∃ v, worthA (F y) v0 = v := ⟨_, rfl⟩
      have HV := Lib.hid hv
      rw [hv]
      clear hv
      go_enter Tryd.func18, Tryd.ntmps18
      go_wp2_with (first
        | (go_at_call 40; refine (checkPlot_any n hn F HF.out b c y A _ HI.out S.out).mono ?_; rintro e w2 ⟨rfl, hb2⟩; rw [HE2.out]; obtain ⟨c0, c1, c2, c3⟩ := row_at (HI.out.later hb2) hyn)
        | (go_at_call 45; refine (isDays_any _ _).mono ?_; rintro e w' ⟨rfl, rfl⟩; rw [H2.out])
        | (go_at_call 46; refine (bestDay_any (F y) hok.out m (by omega) _).mono ?_; rintro e w3 ⟨rfl, hb3⟩; rw [HV0.out, HV.out]))
      go_ret3
      exact ⟨rfl, hb2.trans (hb3.mono hb2.size)⟩
end Go.Proofs.YtmiafnmenolemaaDoor
