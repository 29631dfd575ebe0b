/-
  ValidPlots, WorthOn: the model's, the program's.
-/
import Derived.Test.YtmiafnmenolemaaDoorPlots
namespace Go.Proofs.YtmiafnmenolemaaDoor
open Go Go.RowKit

set_option maxRecDepth 100000 in
set_option maxHeartbeats 1000000 in
theorem implValidPlots (n : Nat) (hn : n ≤ 2 ^ 40) (F : Nat → Nat → Int) (hF : ∀ i, i < n → WfPl (F i)) (b c : Nat) (A : Nat → Addr) (w : World) (I : InS w b 0 n ksPlot F) (hv1 : w.cell? ⟨1, 0, none⟩ = some (errVal (A 1))) :
    Calls Tryd.prog 13 #[.slice (some ⟨b, 0, none⟩) n c] w fun e w' => e = .returned (.bool (plotsOk n F)) ∧ Below w.heap.size w w' := by
  have hif := isIfaceErr
  obtain ⟨p, hp⟩ : ∃ p, plotsOk n F = p := ⟨_, rfl⟩
  have HP := Lib.hid hp
  rw [hp]
  clear hp
  cases p with
  | false =>
    go_enter Tryd.func13, Tryd.ntmps13
    go_wp2_with (go_at_call 34; refine (checkPlots_any n hn F hF b c A _ I hv1).mono ?_; rintro e w2 ⟨rfl, hb2⟩; rw [HP.out, show plErr A false = errVal (A 1) from rfl])
    go_ret
    exact ⟨rfl, hb2⟩
  | true =>
    go_enter Tryd.func13, Tryd.ntmps13
    go_wp2_with (go_at_call 34; refine (checkPlots_any n hn F hF b c A _ I hv1).mono ?_; rintro e w2 ⟨rfl, hb2⟩; rw [HP.out, show plErr A true = .nilIface from rfl])
    go_ret
    exact ⟨rfl, hb2⟩
theorem plotsAsk_no {n : Nat} {F : Nat → Nat → Int} {q : Bool} (h : plotsOk n F = false) : plotsAsk n F q = 1 := by unfold plotsAsk; rw [h]; rfl
theorem plotsAsk_yes {n : Nat} {F : Nat → Nat → Int} {q : Bool} (h : plotsOk n F = true) : plotsAsk n F q = if q then 0 else 2 := by unfold plotsAsk; rw [h]; rfl
/-- The answer of a law that asks for a plot. -/
def onPlot (n : Nat) (F : Nat → Nat → Int) (q : Bool) (v : Int) : Int := if plotsOk n F && q then v else 0
theorem row_at {w : World} {b n x : Nat} {F : Nat → Nat → Int} (I : InS w b 0 n ksPlot F) (hx : x < n) : PltAt w b (x * 4) (F x) := pltAt_of (by have h := I x hx; rw [Nat.zero_add] at h; exact h)
set_option maxRecDepth 100000 in
set_option maxHeartbeats 1000000 in
theorem specWorthOn (n : Nat) (hn : n ≤ 2 ^ 40) (F : Nat → Nat → Int) (hF : ∀ i, i < n → WfPl (F i)) (b c : Nat) (x d : Int) (w : World) (I : InS w b 0 n ksPlot F) :
    Calls Tryd.prog 15 #[.slice (some ⟨b, 0, none⟩) n c, .int .i64 x, .int .i64 d] w fun e w' => e = .returned (.tuple #[.int .i64 (onPlot n F (inB x 0 ((n : Int) - 1) && inB d 0 200) (worthA (F x.toNat) d)), .int .i64 (plotsAsk n F (inB x 0 ((n : Int) - 1) && inB d 0 200))]) ∧ Below w.heap.size w w' := by
  have HI := Lib.hid I
  have HF := Lib.hid hF
  clear I hF
  obtain ⟨q1, h1⟩ : ∃ q, inB x 0 ((n : Int) - 1) = q := ⟨_, rfl⟩
  obtain ⟨q2, h2⟩ : ∃ q, inB d 0 200 = q := ⟨_, rfl⟩
  have H1 := Lib.hid h1
  have H2 := Lib.hid h2
  rw [h1, h2]
  clear h1 h2
  obtain ⟨q, hq⟩ : ∃ q, (q1 && q2) = q := ⟨_, rfl⟩
  have hor : q = true → q1 = true ∧ q2 = true := fun e => by rw [e] at hq; simpa using hq
  rw [hq]
  obtain ⟨p, hp⟩ : ∃ p, plotsOk n F = p := ⟨_, rfl⟩
  have HP := Lib.hid hp
  have hpv : Hid (plotsOk n F = p) := HP
  cases p with
  | false =>
    have e1 : Hid (onPlot n F q (worthA (F x.toNat) d) = 0) := Lib.hid (by unfold onPlot; rw [hp]; rfl)
    have e2 : Hid (∀ q, plotsAsk n F q = 1) := Lib.hid (fun q => plotsAsk_no hp)
    rw [e1.out, e2.out]
    clear hor hp
    cases q1
    all_goals
      go_enter Tryd.func15, Tryd.ntmps15
      go_wp2_with (first
        | (go_at_call 37; refine (l07Index_any _ n c hn x _).mono ?_; rintro e w' ⟨rfl, rfl⟩; rw [H1.out])
        | (go_at_call 38; refine (l00In_any _ _ _ _).mono ?_; rintro e w' ⟨rfl, rfl⟩; rw [H2.out])
        | (go_at_call 36; refine (l07Asked_any n hn F HF.out b c _ _ HI.out).mono ?_; rintro e w2 ⟨rfl, hb2⟩; rw [e2.out]))
      go_ret2
      exact ⟨rfl, hb2⟩
  | true =>
    cases q with
    | false =>
      have e1 : Hid (onPlot n F false (worthA (F x.toNat) d) = 0) := Lib.hid (by unfold onPlot; rw [Bool.and_false]; rfl)
      have e2 : Hid (plotsAsk n F false = 2) := Lib.hid (plotsAsk_yes hp)
      rw [e1.out, e2.out]
      clear hor hp
      cases q1 with
      | false =>
        clear hq
        go_enter Tryd.func15, Tryd.ntmps15
        go_wp2_with (first
          | (go_at_call 37; refine (l07Index_any _ n c hn x _).mono ?_; rintro e w' ⟨rfl, rfl⟩; rw [H1.out])
          | (go_at_call 36; refine (l07Asked_any n hn F HF.out b c _ _ HI.out).mono ?_; rintro e w2 ⟨rfl, hb2⟩; rw [e2.out]))
        go_ret2
        exact ⟨rfl, hb2⟩
      | true =>
        obtain rfl : q2 = false := by simpa using hq
        clear hq
        go_enter Tryd.func15, Tryd.ntmps15
        go_wp2_with (first
          | (go_at_call 37; refine (l07Index_any _ n c hn x _).mono ?_; rintro e w' ⟨rfl, rfl⟩; rw [H1.out])
          | (go_at_call 38; refine (l00In_any _ _ _ _).mono ?_; rintro e w' ⟨rfl, rfl⟩; rw [H2.out])
          | (go_at_call 36; refine (l07Asked_any n hn F HF.out b c _ _ HI.out).mono ?_; rintro e w2 ⟨rfl, hb2⟩; rw [e2.out]))
        go_ret2
        exact ⟨rfl, hb2⟩
    | true =>
      obtain ⟨rfl, rfl⟩ := hor rfl
      have hx := inB_iff.1 H1.out
      obtain ⟨y, rfl⟩ : ∃ y : Nat, x = y := ⟨x.toNat, by omega⟩
      have hyn : y < n := by omega
      have hd := inB_iff.1 H2.out
      have e1 : Hid (onPlot n F true (worthA (F (y : Int).toNat) d) = worthA (F y) d) := Lib.hid (by unfold onPlot; rw [hp]; rfl)
      have e2 : Hid (plotsAsk n F true = 0) := Lib.hid (plotsAsk_yes hp)
      have hok := Lib.hid ((plotsOk_iff.1 hp).1 y hyn)
      rw [e1.out, e2.out]
      clear hp hor hq
      obtain ⟨v, hv⟩ : ∃ v, worthA (F y) d = v := ⟨_, rfl⟩
      have HV := Lib.hid hv
      rw [hv]
      clear hv
      go_enter Tryd.func15, Tryd.ntmps15
      go_wp2_with (first
        | (go_at_call 37; refine (l07Index_any _ n c hn y _).mono ?_; rintro e w' ⟨rfl, rfl⟩; rw [H1.out])
        | (go_at_call 38; refine (l00In_any _ _ _ _).mono ?_; rintro e w' ⟨rfl, rfl⟩; rw [H2.out])
        | (go_at_call 36; refine (l07Asked_any n hn F HF.out b c _ _ HI.out).mono ?_; rintro e w2 ⟨rfl, hb2⟩; rw [e2.out]; obtain ⟨c0, c1, c2, c3⟩ := row_at (HI.out.later hb2) hyn)
        | (go_at_call 39; refine (l07Worth_any (F y) hok.out d (by omega) _).mono ?_; rintro e w3 ⟨rfl, hb3⟩; rw [HV.out]))
      go_ret2
      exact ⟨rfl, hb2.trans (hb3.mono hb2.size)⟩
/-- The program's error where a plot is asked for. -/
def plotErr (A : Nat → Addr) (n : Nat) (F : Nat → Nat → Int) (x : Int) : Value := if plotsOk n F then (if inB x 0 ((n : Int) - 1) then .nilIface else errVal (A 2)) else errVal (A 1)
set_option maxRecDepth 100000 in
set_option maxHeartbeats 1000000 in
theorem checkPlot_any (n : Nat) (hn : n ≤ 2 ^ 40) (F : Nat → Nat → Int) (hF : ∀ i, i < n → WfPl (F i)) (b c : Nat) (x : Int) (A : Nat → Addr) (w : World) (I : InS w b 0 n ksPlot F) (S0 : Sents w A) :
    Calls Tryd.prog 40 #[.slice (some ⟨b, 0, none⟩) n c, .int .i64 x] w fun e w' => e = .returned (plotErr A n F x) ∧ Below w.heap.size w w' := by
  have S : Hid (Sents w A) := Lib.hid S0
  clear S0
  have HI := Lib.hid I
  have HF := Lib.hid hF
  clear I hF
  have hif := isIfaceErr
  unfold plotErr
  obtain ⟨p, hp⟩ : ∃ p, plotsOk n F = p := ⟨_, rfl⟩
  have HP := Lib.hid hp
  rw [hp]
  clear hp
  cases p with
  | false =>
    go_enter Tryd.func40, Tryd.ntmps40
    go_wp2_with (go_at_call 34; refine (checkPlots_any n hn F HF.out b c A _ HI.out S.out.v1).mono ?_; rintro e w2 ⟨rfl, hb2⟩; rw [HP.out, show plErr A false = errVal (A 1) from rfl])
    go_ret
    exact ⟨rfl, hb2⟩
  | true =>
    by_cases x1 : x < 0
    · rw [inB_false (.inl x1)]
      go_enter Tryd.func40, Tryd.ntmps40
      go_wp2_with (go_at_call 34; refine (checkPlots_any n hn F HF.out b c A _ HI.out S.out.v1).mono ?_; rintro e w2 ⟨rfl, hb2⟩; rw [HP.out, show plErr A true = .nilIface from rfl]; have v2 := (S.out.later hb2).v2)
      go_ret
      exact ⟨rfl, hb2⟩
    by_cases x2 : (n : Int) ≤ x
    · rw [inB_false (.inr (by omega))]
      go_enter Tryd.func40, Tryd.ntmps40
      go_wp2_with (go_at_call 34; refine (checkPlots_any n hn F HF.out b c A _ HI.out S.out.v1).mono ?_; rintro e w2 ⟨rfl, hb2⟩; rw [HP.out, show plErr A true = .nilIface from rfl]; have v2 := (S.out.later hb2).v2)
      go_ret
      exact ⟨rfl, hb2⟩
    rw [inB_iff.2 (by omega)]
    go_enter Tryd.func40, Tryd.ntmps40
    go_wp2_with (go_at_call 34; refine (checkPlots_any n hn F HF.out b c A _ HI.out S.out.v1).mono ?_; rintro e w2 ⟨rfl, hb2⟩; rw [HP.out, show plErr A true = .nilIface from rfl])
    go_ret
    exact ⟨rfl, hb2⟩
set_option maxRecDepth 100000 in
set_option maxHeartbeats 2000000 in
theorem implWorthOn (n : Nat) (hn : n ≤ 2 ^ 40) (F : Nat → Nat → Int) (hF : ∀ i, i < n → WfPl (F i)) (b c : Nat) (x d : Int) (A : Nat → Addr) (w : World) (I : InS w b 0 n ksPlot F) (S0 : Sents w A) :
    Calls Tryd.prog 16 #[.slice (some ⟨b, 0, none⟩) n c, .int .i64 x, .int .i64 d] w fun e w' => e = .returned (.tuple #[.int .i64 (onPlot n F (inB x 0 ((n : Int) - 1) && inB d 0 200) (worthA (F x.toNat) d)), .int .i64 (plotsAsk n F (inB x 0 ((n : Int) - 1) && inB d 0 200))]) ∧ Below w.heap.size w w' := by
  have S : Hid (Sents w A) := Lib.hid S0
  clear S0
  have HI := Lib.hid I
  have HF := Lib.hid hF
  clear I hF
  have hif := isIfaceErr
  obtain ⟨q1, h1⟩ : ∃ q, inB x 0 ((n : Int) - 1) = q := ⟨_, rfl⟩
  obtain ⟨q2, h2⟩ : ∃ q, inB d 0 200 = q := ⟨_, rfl⟩
  have H1 := Lib.hid h1
  have H2 := Lib.hid h2
  rw [h1, h2]
  clear h1 h2
  obtain ⟨p, hp⟩ : ∃ p, plotsOk n F = p := ⟨_, rfl⟩
  have HP := Lib.hid hp
  have HE : Hid (plotErr A n F x = if p = true then (if q1 = true then .nilIface else errVal (A 2)) else errVal (A 1)) := Lib.hid (by unfold plotErr; rw [hp, H1.out])
  cases p with
  | false =>
    have e1 : Hid (onPlot n F (q1 && q2) (worthA (F x.toNat) d) = 0) := Lib.hid (by unfold onPlot; rw [hp]; rfl)
    have e2 : Hid (∀ q, plotsAsk n F q = 1) := Lib.hid (fun q => plotsAsk_no hp)
    rw [e1.out, e2.out]
    clear hp
    have HE2 : Hid (plotErr A n F x = errVal (A 1)) := Lib.hid HE.out
    clear HE
    go_enter Tryd.func16, Tryd.ntmps16
    go_wp2_with (first
      | (go_at_call 40; refine (checkPlot_any n hn F HF.out b c x A _ HI.out S.out).mono ?_; rintro e w2 ⟨rfl, hb2⟩; rw [HE2.out])
      | (go_at_call 41; refine (codeOf_err A 1 (by omega) (by omega) _ (S.out.later hb2)).mono ?_; rintro e w' ⟨rfl, rfl⟩))
    go_ret2
    exact ⟨rfl, hb2⟩
  | true =>
    cases q1 with
    | false =>
      have e1 : Hid (onPlot n F (false && q2) (worthA (F x.toNat) d) = 0) := Lib.hid (by unfold onPlot; rw [hp]; rfl)
      have e2 : Hid (plotsAsk n F (false && q2) = 2) := Lib.hid (plotsAsk_yes hp)
      rw [e1.out, e2.out]
      clear hp
      have HE2 : Hid (plotErr A n F x = errVal (A 2)) := Lib.hid HE.out
      clear HE
      go_enter Tryd.func16, Tryd.ntmps16
      go_wp2_with (first
        | (go_at_call 40; refine (checkPlot_any n hn F HF.out b c x A _ HI.out S.out).mono ?_; rintro e w2 ⟨rfl, hb2⟩; rw [HE2.out])
        | (go_at_call 41; refine (codeOf_err A 2 (by omega) (by omega) _ (S.out.later hb2)).mono ?_; rintro e w' ⟨rfl, rfl⟩))
      go_ret2
      exact ⟨rfl, hb2⟩
    | true =>
    have HE2 : Hid (plotErr A n F x = .nilIface) := Lib.hid HE.out
    clear HE
    cases q2 with
    | false =>
      have e1 : Hid (onPlot n F (true && false) (worthA (F x.toNat) d) = 0) := Lib.hid (by unfold onPlot; rw [hp]; rfl)
      have e2 : Hid (plotsAsk n F (true && false) = 2) := Lib.hid (plotsAsk_yes hp)
      rw [e1.out, e2.out]
      clear hp
      by_cases d1 : d < 0
      · go_enter Tryd.func16, Tryd.ntmps16
        go_wp2_with (first
          | (go_at_call 40; refine (checkPlot_any n hn F HF.out b c x A _ HI.out S.out).mono ?_; rintro e w2 ⟨rfl, hb2⟩; rw [HE2.out]; have v2 := (S.out.later hb2).v2)
          | (go_at_call 41; refine (codeOf_err A 2 (by omega) (by omega) _ (S.out.later hb2)).mono ?_; rintro e w' ⟨rfl, rfl⟩))
        go_ret2
        exact ⟨rfl, hb2⟩
      · have d2 : 200 < d := by
          by_cases e : 200 < d
          · exact e
          · have := inB_iff.2 (show 0 ≤ d ∧ d ≤ 200 by omega)
            rw [H2.out] at this; cases this
        go_enter Tryd.func16, Tryd.ntmps16
        go_wp2_with (first
          | (go_at_call 40; refine (checkPlot_any n hn F HF.out b c x A _ HI.out S.out).mono ?_; rintro e w2 ⟨rfl, hb2⟩; rw [HE2.out]; have v2 := (S.out.later hb2).v2)
          | (go_at_call 41; refine (codeOf_err A 2 (by omega) (by omega) _ (S.out.later hb2)).mono ?_; rintro e w' ⟨rfl, rfl⟩))
        go_ret2
        exact ⟨rfl, hb2⟩
    | true =>
      have hx := inB_iff.1 H1.out
      obtain ⟨y, rfl⟩ : ∃ y : Nat, x = y := ⟨x.toNat, by omega⟩
      have hyn : y < n := by omega
      have hd := inB_iff.1 H2.out
      obtain ⟨hd1, hd2⟩ := hd
      have e1 : Hid (onPlot n F (true && true) (worthA (F (y : Int).toNat) d) = worthA (F y) d) := Lib.hid (by unfold onPlot; rw [hp]; rfl)
      have e2 : Hid (plotsAsk n F (true && true) = 0) := Lib.hid (plotsAsk_yes hp)
      have hok := Lib.hid ((plotsOk_iff.1 hp).1 y hyn)
      rw [e1.out, e2.out]
      clear hp
      obtain ⟨v, hv⟩ : ∃ v, worthA (F y) d = v := ⟨_, rfl⟩
      have HV := Lib.hid hv
      rw [hv]
      clear hv
      go_enter Tryd.func16, Tryd.ntmps16
      go_wp2_with (first
        | (go_at_call 40; refine (checkPlot_any n hn F HF.out b c y A _ HI.out S.out).mono ?_; rintro e w2 ⟨rfl, hb2⟩; rw [HE2.out]; obtain ⟨c0, c1, c2, c3⟩ := row_at (HI.out.later hb2) hyn)
        | (go_at_call 42; refine (worthOn_any (F y) hok.out d (by omega) _).mono ?_; rintro e w3 ⟨rfl, hb3⟩; rw [HV.out]))
      go_ret2
      exact ⟨rfl, hb2.trans (hb3.mono hb2.size)⟩
end Go.Proofs.YtmiafnmenolemaaDoor
