/-
  Plans: whether they are valid; the program's.
-/
import Derived.Test.YtmiafnmenolemaaDoorPlan
namespace Go.Proofs.YtmiafnmenolemaaDoor
open Go Go.RowKit

theorem zero20 : (#[.int .i64 0, .int .i64 0, .int .i64 0, .int .i64 0, .int .i64 0, .int .i64 0, .int .i64 0, .int .i64 0, .int .i64 0, .int .i64 0, .int .i64 0, .int .i64 0, .int .i64 0, .int .i64 0, .int .i64 0, .int .i64 0, .int .i64 0, .int .i64 0, .int .i64 0, .int .i64 0] : Array Value) = acells .i64 20 (fun _ => 0) := by simp [acells, List.range, List.range.loop]

set_option maxRecDepth 100000 in
set_option maxHeartbeats 8000000 in
theorem checkPlan_any (n : Nat) (hn : n ≤ 2 ^ 40) (F : Nat → Nat → Int) (hF : ∀ i, i < n → WfPl (F i)) (b c : Nat) (H : Int) (m : Nat) (hm : m ≤ 2 ^ 40) (h : Nat → Int) (b2 c2 : Nat) (A : Nat → Addr) (w : World) (I : InS w b 0 n ksPlot F) (I2 : InI w b2 0 m h) (hv1 : w.cell? ⟨1, 0, none⟩ = some (errVal (A 1))) :
    Calls Tryd.prog 48 #[.slice (some ⟨b, 0, none⟩) n c, .int .i64 H, .slice (some ⟨b2, 0, none⟩) m c2] w fun e w' => e = .returned (plErr A (planOk n F H m h)) ∧ Below w.heap.size w w' := by
  have HI := Lib.hid I
  have HI2 := Lib.hid I2
  have HF := Lib.hid hF
  have HV := Lib.hid hv1
  clear I hF I2 hv1
  have hif := isIfaceErr
  obtain ⟨p, hp⟩ : ∃ p, plotsOk n F = p := ⟨_, rfl⟩
  have HP := Lib.hid hp
  obtain ⟨q, hq⟩ : ∃ q, inB H 1 3 = q := ⟨_, rfl⟩
  have HQ := Lib.hid hq
  cases p with
  | false =>
    have hr : planOk n F H m h = false := by unfold planOk; rw [hp]; rfl
    rw [hr]
    clear hr hp hq
    go_enter Tryd.func48, Tryd.ntmps48
    go_wp2_with (go_at_call 34; refine (checkPlots_any n hn F HF.out b c A _ HI.out HV.out).mono ?_; rintro e w2 ⟨rfl, hb2⟩; rw [HP.out, show plErr A false = errVal (A 1) from rfl])
    go_ret
    exact ⟨rfl, hb2⟩
  | true =>
  cases q with
  | false =>
    have hr : planOk n F H m h = false := by unfold planOk; rw [hp, hq]; rfl
    rw [hr]
    clear hr hp hq
    go_enter Tryd.func48, Tryd.ntmps48
    go_wp2_with (first
      | (go_at_call 34; refine (checkPlots_any n hn F HF.out b c A _ HI.out HV.out).mono ?_; rintro e w2 ⟨rfl, hb2⟩; rw [HP.out, show plErr A true = .nilIface from rfl]; have v1 := cell_later HV.out hb2)
      | (go_at_call 59; refine (isHands_any _ _).mono ?_; rintro e w' ⟨rfl, rfl⟩; rw [HQ.out]))
    go_ret
    exact ⟨rfl, hb2⟩
  | true =>
  by_cases hmn : m = n
  · subst hmn
    have hH := inB_iff.1 hq
    have hfin : Hid ((∀ i, i < m → planAt H h i = true) → planOk m F H m h = true) := Lib.hid (fun hh => planOk_iff.2 ⟨hp, hH, rfl, hh⟩)
    have hm6 := (plotsOk_iff.1 hp).2
    clear hp hq
    go_enter Tryd.func48, Tryd.ntmps48
    go_wp2_with (first
      | (go_at_call 34; refine (checkPlots_any m hn F HF.out b c A _ HI.out HV.out).mono ?_; rintro e w2 ⟨rfl, hb2⟩; rw [HP.out, show plErr A true = .nilIface from rfl]; have HB2 := Lib.hid hb2; clear hb2)
      | (go_at_call 59; refine (isHands_any _ _).mono ?_; rintro e w' ⟨rfl, rfl⟩; rw [HQ.out]))
    obtain ⟨W, hW, M⟩ := open1 w2 (acells .i64 20 (fun d => cntP h d 0)) 76
    rw [show acells .i64 20 (fun d : Nat => cntP h (d : Int) 0) = acells .i64 20 (fun _ => 0) from acells_congr (fun _ _ => rfl), ← zero20] at hW
    (try rw [hW])
    clear hW
    go_loopw [29] (fun i wr => ∃ k : Nat, k ≤ m ∧ i = .int .i64 k ∧ Mem w2 wr [⟨w2.heap.size, acells .i64 20 (fun d => cntP h d k), 76⟩] ∧ Hid (∀ i, i < k → planAt H h i = true)) (fun i _ => m - (intOf i).toNat)
    case atStart => exact ⟨0, by omega, rfl, M, Lib.hid (fun i hi => by omega)⟩
    case round =>
      clear M
      obtain ⟨k, hk, rfl, M, hall⟩ := hrel
      have hbw := HB2.out.trans (M.below.mono HB2.out.size)
      by_cases hlt : k < m
      · have c0 := (HI2.out.later hbw) k hlt
        rw [Nat.zero_add] at c0
        obtain ⟨x, hx⟩ : ∃ x, h k = x := ⟨_, rfl⟩
        rw [hx] at c0
        have HX := Lib.hid hx
        clear hx
        by_cases h1 : x = -1
        · subst h1
          have hgood : Hid (planAt H h k = true) := Lib.hid (planAt_iff.2 ⟨by rw [HX.out]; omega, fun h1 => by rw [HX.out] at h1; omega⟩)
          have hc : acells .i64 20 (fun d => cntP h d k) = acells .i64 20 (fun d => cntP h d (k + 1)) := acells_congr (fun d _ => (cntP_no (by rw [HX.out]; omega)).symm)
          rw [hc] at M
          have HM := Lib.hid M
          clear hc M
          go_wp2_with fail
          go_roundw
          case rel => exact ⟨k + 1, by omega, by go_num, HM.out, Lib.hid (upto_succ hall.out hgood.out)⟩
          case measure => simp [intOf]; omega
        · by_cases h2 : x < 0
          · have hbad : Hid (planOk m F H m h = false) := Lib.hid (planOk_bad hlt (by unfold planAt; rw [HX.out, inB_false (.inl (by omega))]; rfl))
            have v1 := cell_later HV.out hbw
            go_wp2_with fail
            go_ret
            exact ⟨by rw [hbad.out]; rfl, hbw⟩
          · by_cases h3 : 20 ≤ x
            · have hbad : Hid (planOk m F H m h = false) := Lib.hid (planOk_bad hlt (by unfold planAt; rw [HX.out, inB_false (.inr (by omega))]; rfl))
              have v1 := cell_later HV.out hbw
              go_wp2_with fail
              go_ret
              exact ⟨by rw [hbad.out]; rfl, hbw⟩
            · obtain ⟨d, rfl⟩ : ∃ d : Nat, x = d := ⟨x.toNat, by omega⟩
              have hd : d < 20 := by omega
              have hcl := cnt_le (by omega) k hall.out (d : Int) (by omega)
              have hci := cntP_in h (d : Int) k
              have hcs := cntP_yes HX.out
              obtain ⟨z, hz⟩ : ∃ z, cntP h (d : Int) k = z := ⟨_, rfl⟩
              have d0 := (M.at 0 rfl).cell (acells_get .i64 20 (fun d => cntP h d k) d hd)
              have e0 := (M.at 0 rfl).free d
              rw [hz] at d0
              rw [hz] at hcl hci hcs
              have HS := Lib.hid hcs
              have HZ := Lib.hid hz
              clear hz hcs
              by_cases heq : z = H
              · have hbad : Hid (planOk m F H m h = false) := Lib.hid (planOk_bad hlt (by
                  cases e : planAt H h k with
                  | false => rfl
                  | true =>
                    have := (planAt_iff.1 e).2 (by rw [HX.out]; omega)
                    rw [HX.out, HS.out] at this; omega))
                have v1 := cell_later HV.out hbw
                subst heq
                go_wp2_with fail
                go_ret
                exact ⟨by rw [hbad.out]; rfl, hbw⟩
              · have hgood : Hid (planAt H h k = true) := Lib.hid (planAt_iff.2 ⟨by rw [HX.out]; omega, fun _ => by rw [HX.out, HS.out]; omega⟩)
                have h4 := M.set 0 d (.int .i64 (z + 1)) rfl _ (acells_set .i64 20 (fun d => cntP h d k) d (z + 1) hd)
                have hc : acells .i64 20 (fun j => if j = d then z + 1 else cntP h (j : Int) k) = acells .i64 20 (fun j => cntP h (j : Int) (k + 1)) := acells_congr (fun j _ => by
                  by_cases e : j = d
                  · subst e; rw [if_pos rfl, HS.out]
                  · rw [if_neg e, cntP_no (by rw [HX.out]; omega)])
                rw [hc] at h4
                have HM := Lib.hid h4
                clear hc h4
                go_wp2_with fail
                go_roundw
                case rel => exact ⟨k + 1, by omega, by go_num, HM.out, Lib.hid (upto_succ hall.out hgood.out)⟩
                case measure => simp [intOf]; omega
      · obtain rfl : k = m := by omega
        have hr : Hid (planOk k F H k h = true) := Lib.hid (hfin.out hall.out)
        go_wp2_with fail
        go_ret
        exact ⟨by rw [hr.out]; rfl, hbw⟩
  · have hr : planOk n F H m h = false := by unfold planOk; rw [decide_eq_false hmn, Bool.and_false]; rfl
    rw [hr]
    have hmn2 : ¬ (m : Int) = n := by omega
    clear hr hp hq
    go_enter Tryd.func48, Tryd.ntmps48
    go_wp2_with (first
      | (go_at_call 34; refine (checkPlots_any n hn F HF.out b c A _ HI.out HV.out).mono ?_; rintro e w2 ⟨rfl, hb2⟩; rw [HP.out, show plErr A true = .nilIface from rfl]; have v1 := cell_later HV.out hb2)
      | (go_at_call 59; refine (isHands_any _ _).mono ?_; rintro e w' ⟨rfl, rfl⟩; rw [HQ.out]))
    go_ret
    exact ⟨rfl, hb2⟩
end Go.Proofs.YtmiafnmenolemaaDoor
