/-
  Plans: whether they are valid; the model's, the program's.
-/
import Derived.Test.YtmiafnmenolemaaDoorWorth
import Derived.Test.YtmiafnmenolemaaDoorLstN
import Derived.Laws.ResultCell
namespace Go.Proofs.YtmiafnmenolemaaDoor
open Go Go.RowKit

/-- How many of the first numbers are x. -/
def cntP (h : Nat → Int) (x : Int) : Nat → Int
  | 0 => 0
  | k + 1 => cntP h x k + (if h k = x then 1 else 0)
theorem cntP_in (h : Nat → Int) (x : Int) : ∀ k : Nat, 0 ≤ cntP h x k ∧ cntP h x k ≤ k
  | 0 => by simp [cntP]
  | k + 1 => by
    have ih := cntP_in h x k
    unfold cntP; split <;> omega
theorem cntP_yes {h : Nat → Int} {x : Int} {k : Nat} (e : h k = x) : cntP h x (k + 1) = cntP h x k + 1 := by rw [cntP, if_pos e]
theorem cntP_no {h : Nat → Int} {x : Int} {k : Nat} (e : ¬ h k = x) : cntP h x (k + 1) = cntP h x k := by rw [cntP, if_neg e, Int.add_zero]
/-- A number of a plan as told. -/
def planAt (H : Int) (h : Nat → Int) (i : Nat) : Bool := inB (h i) (-1) 19 && !(decide (0 ≤ h i) && decide (H < cntP h (h i) (i + 1)))
theorem planAt_iff {H : Int} {h : Nat → Int} {i : Nat} : planAt H h i = true ↔ (-1 ≤ h i ∧ h i ≤ 19) ∧ (0 ≤ h i → cntP h (h i) (i + 1) ≤ H) := by
  simp only [planAt, Bool.and_eq_true, inB_iff, Bool.not_eq_true', Bool.and_eq_false_iff, decide_eq_false_iff_not]
  constructor
  · rintro ⟨a, b⟩; exact ⟨a, fun h0 => by omega⟩
  · rintro ⟨a, b⟩; refine ⟨a, ?_⟩
    by_cases h0 : 0 ≤ h i
    · have := b h0; omega
    · exact .inl h0
/-- A plan that is valid for its plots. -/
def planOk (n : Nat) (F : Nat → Nat → Int) (H : Int) (m : Nat) (h : Nat → Int) : Bool := plotsOk n F && inB H 1 3 && decide (m = n) && allTo m (planAt H h)
theorem planOk_iff {n : Nat} {F : Nat → Nat → Int} {H : Int} {m : Nat} {h : Nat → Int} : planOk n F H m h = true ↔ plotsOk n F = true ∧ (1 ≤ H ∧ H ≤ 3) ∧ m = n ∧ ∀ i, i < m → planAt H h i = true := by
  simp only [planOk, Bool.and_eq_true, inB_iff, decide_eq_true_eq, allTo_iff]
  constructor
  · rintro ⟨⟨⟨a, b⟩, c⟩, d⟩; exact ⟨a, b, c, d⟩
  · rintro ⟨a, b, c, d⟩; exact ⟨⟨⟨a, b⟩, c⟩, d⟩
theorem planOk_bad {n : Nat} {F : Nat → Nat → Int} {H : Int} {m k : Nat} {h : Nat → Int} (hk : k < m) (hb : planAt H h k = false) : planOk n F H m h = false := by
  cases e : planOk n F H m h with
  | false => rfl
  | true => have := (planOk_iff.1 e).2.2.2 k hk; rw [hb] at this; cases this
theorem cnt_le {H : Int} {h : Nat → Int} (h0 : 0 ≤ H) : ∀ k : Nat, (∀ i, i < k → planAt H h i = true) → ∀ x : Int, 0 ≤ x → cntP h x k ≤ H
  | 0, _, x, _ => by simpa [cntP] using h0
  | k + 1, ha, x, hx => by
    by_cases e : h k = x
    · have := (planAt_iff.1 (ha k (by omega))).2 (by rw [e]; exact hx)
      rw [e] at this; exact this
    · rw [cntP_no e]; exact cnt_le h0 k (fun i hi => ha i (by omega)) x hx
set_option maxRecDepth 100000 in
set_option maxHeartbeats 4000000 in
theorem l07Plan_any (n : Nat) (hn : n ≤ 2 ^ 40) (F : Nat → Nat → Int) (hF : ∀ i, i < n → WfPl (F i)) (b c : Nat) (H : Int) (m : Nat) (hm : m ≤ 2 ^ 40) (h : Nat → Int) (b2 c2 : Nat) (w : World) (I : InS w b 0 n ksPlot F) (I2 : InI w b2 0 m h) :
    Calls Tryd.prog 47 #[.slice (some ⟨b, 0, none⟩) n c, .int .i64 H, .slice (some ⟨b2, 0, none⟩) m c2] w fun e w' => e = .returned (.bool (planOk n F H m h)) ∧ Below w.heap.size w w' := by
  have HI := Lib.hid I
  have HI2 := Lib.hid I2
  have HF := Lib.hid hF
  clear I hF I2
  obtain ⟨p, hp⟩ : ∃ p, plotsOk n F = p := ⟨_, rfl⟩
  have HP := Lib.hid hp
  obtain ⟨q, hq⟩ : ∃ q, inB H 1 3 = q := ⟨_, rfl⟩
  have HQ := Lib.hid hq
  cases p with
  | false =>
    have hr : planOk n F H m h = false := by unfold planOk; rw [hp]; rfl
    rw [hr]
    clear hr hp hq
    go_enter Tryd.func47, Tryd.ntmps47
    go_wp2_with (go_at_call 32; refine (l07Ok_any n hn F HF.out b c _ HI.out).mono ?_; rintro e w2 ⟨rfl, hb2⟩; rw [HP.out])
    go_ret
    exact ⟨rfl, hb2⟩
  | true =>
  cases q with
  | false =>
    have hr : planOk n F H m h = false := by unfold planOk; rw [hp, hq]; rfl
    rw [hr]
    clear hr hp hq
    go_enter Tryd.func47, Tryd.ntmps47
    go_wp2_with (first
      | (go_at_call 32; refine (l07Ok_any n hn F HF.out b c _ HI.out).mono ?_; rintro e w2 ⟨rfl, hb2⟩; rw [HP.out])
      | (go_at_call 58; refine (l07Hands_any _ _).mono ?_; rintro e w' ⟨rfl, rfl⟩; rw [HQ.out]))
    go_ret
    exact ⟨rfl, hb2⟩
  | true =>
  by_cases hmn : m = n
  · subst hmn
    have hH := inB_iff.1 hq
    have hfin : Hid ((∀ i, i < m → planAt H h i = true) → planOk m F H m h = true) := Lib.hid (fun hh => planOk_iff.2 ⟨hp, hH, rfl, hh⟩)
    have hm6 := (plotsOk_iff.1 hp).2
    clear hp hq
    go_enter Tryd.func47, Tryd.ntmps47
    go_wp2_with (first
      | (go_at_call 32; refine (l07Ok_any m hn F HF.out b c _ HI.out).mono ?_; rintro e w2 ⟨rfl, hb2⟩; rw [HP.out]; have HB2 := Lib.hid hb2; clear hb2)
      | (go_at_call 58; refine (l07Hands_any _ _).mono ?_; rintro e w' ⟨rfl, rfl⟩; rw [HQ.out]))
    go_loopw [7] (fun i wr => ∃ k : Nat, k ≤ m ∧ i = .int .i64 k ∧ Hid (Below w.heap.size w wr) ∧ Hid (∀ i, i < k → planAt H h i = true)) (fun i _ => m - (intOf i).toNat)
    case atStart => exact ⟨0, by omega, rfl, HB2, Lib.hid (fun i hi => by omega)⟩
    case round =>
      clear HB2
      obtain ⟨k, hk, rfl, hb, hall⟩ := hrel
      by_cases hlt : k < m
      · have c0 := (HI2.out.later hb.out) k hlt
        rw [Nat.zero_add] at c0
        obtain ⟨x, hx⟩ : ∃ x, h k = x := ⟨_, rfl⟩
        rw [hx] at c0
        have HX := Lib.hid hx
        obtain ⟨r, hr⟩ : ∃ r, inB x (-1) 19 = r := ⟨_, rfl⟩
        have HR := Lib.hid hr
        cases r with
        | false =>
          have hbad : Hid (planOk m F H m h = false) := Lib.hid (planOk_bad hlt (by unfold planAt; rw [hx, hr]; rfl))
          clear hx hr
          go_wp2_with (go_at_call 38; refine (l00In_any _ _ _ _).mono ?_; rintro e w' ⟨rfl, rfl⟩; rw [HR.out])
          go_ret
          exact ⟨by rw [hbad.out]; rfl, hb.out⟩
        | true =>
          have hxr := inB_iff.1 hr
          clear hx hr
          go_upto_region 8 with (go_at_call 38; refine (l00In_any _ _ _ _).mono ?_; rintro e w' ⟨rfl, rfl⟩; rw [HR.out])
          go_wp2_with fail
          clear c0
          go_loopw [8, 9] (fun v j wr2 => ∃ q : Nat, q ≤ k + 1 ∧ v = .int .i64 (cntP h x q) ∧ j = .int .i64 q ∧ Hid (Below w.heap.size w wr2)) (fun _ j _ => k + 1 - (intOf j).toNat)
          case atStart => exact ⟨0, by omega, rfl, rfl, hb⟩
          case round =>
            clear hb
            obtain ⟨q, hq, rfl, rfl, hb⟩ := hrel
            by_cases hlq : q < k + 1
            · have c0 := (HI2.out.later hb.out) k hlt
              have c1 := (HI2.out.later hb.out) q (by omega)
              rw [Nat.zero_add] at c0 c1
              rw [HX.out] at c0
              have hci := cntP_in h x q
              by_cases he : h q = x
              · have hs := Lib.hid (cntP_yes he)
                rw [he] at c1
                clear he
                obtain ⟨z, hz⟩ : ∃ z, cntP h x q = z := ⟨_, rfl⟩
                rw [hz] at hs hci ⊢
                clear hz
                go_wp2_with fail
                go_quiet (fail)
                go_wp2_with fail
                go_roundw
                case rel => exact ⟨q + 1, by omega, by rw [hs.out], by go_num, Lib.hid (below_drewN _ hb.out)⟩
                case measure => simp [intOf]; omega
              · have hs := Lib.hid (cntP_no he)
                obtain ⟨z, hz⟩ : ∃ z, cntP h x q = z := ⟨_, rfl⟩
                rw [hz] at hs hci ⊢
                clear hz
                obtain ⟨y, hy⟩ : ∃ y, h q = y := ⟨_, rfl⟩
                rw [hy] at c1 he
                clear hy
                go_wp2_with fail
                go_quiet (fail)
                go_wp2_with fail
                go_roundw
                case rel => exact ⟨q + 1, by omega, by rw [hs.out], by go_num, Lib.hid (below_drewN _ hb.out)⟩
                case measure => simp [intOf]; omega
            · obtain rfl : q = k + 1 := by omega
              have c0 := (HI2.out.later hb.out) k hlt
              rw [Nat.zero_add, HX.out] at c0
              obtain ⟨z, hz⟩ : ∃ z, cntP h x (k + 1) = z := ⟨_, rfl⟩
              have HZ := Lib.hid hz
              rw [hz]
              clear hz
              by_cases h0 : 0 ≤ x
              · by_cases hgt : H < z
                · have hbad : Hid (planOk m F H m h = false) := Lib.hid (planOk_bad hlt (by unfold planAt; rw [HX.out, HZ.out, HR.out, decide_eq_true h0, decide_eq_true hgt]; rfl))
                  go_wp2_with fail
                  go_ret
                  exact ⟨by rw [hbad.out]; rfl, hb.out⟩
                · have hgood : Hid (planAt H h k = true) := Lib.hid (planAt_iff.2 ⟨by rw [HX.out]; exact hxr, fun _ => by rw [HX.out, HZ.out]; omega⟩)
                  go_wp2_with fail
                  go_roundw
                  case rel => exact ⟨k + 1, by omega, by go_num, hb, Lib.hid (upto_succ hall.out hgood.out)⟩
                  case measure => simp [intOf]; omega
              · have hgood : Hid (planAt H h k = true) := Lib.hid (planAt_iff.2 ⟨by rw [HX.out]; exact hxr, fun h1 => by rw [HX.out] at h1; omega⟩)
                go_wp2_with fail
                go_roundw
                case rel => exact ⟨k + 1, by omega, by go_num, hb, Lib.hid (upto_succ hall.out hgood.out)⟩
                case measure => simp [intOf]; omega
      · obtain rfl : k = m := by omega
        have hr : Hid (planOk k F H k h = true) := Lib.hid (hfin.out hall.out)
        go_wp2_with fail
        go_ret
        exact ⟨by rw [hr.out]; rfl, hb.out⟩
  · have hr : planOk n F H m h = false := by unfold planOk; rw [decide_eq_false hmn, Bool.and_false]; rfl
    rw [hr]
    have hmn2 : ¬ (m : Int) = n := by omega
    clear hr hp hq
    go_enter Tryd.func47, Tryd.ntmps47
    go_wp2_with (first
      | (go_at_call 32; refine (l07Ok_any n hn F HF.out b c _ HI.out).mono ?_; rintro e w2 ⟨rfl, hb2⟩; rw [HP.out])
      | (go_at_call 58; refine (l07Hands_any _ _).mono ?_; rintro e w' ⟨rfl, rfl⟩; rw [HQ.out]))
    go_ret
    exact ⟨rfl, hb2⟩
theorem specValidPlan (n : Nat) (hn : n ≤ 2 ^ 40) (F : Nat → Nat → Int) (hF : ∀ i, i < n → WfPl (F i)) (b c : Nat) (H : Int) (m : Nat) (hm : m ≤ 2 ^ 40) (h : Nat → Int) (b2 c2 : Nat) (w : World) (I : InS w b 0 n ksPlot F) (I2 : InI w b2 0 m h) :
    Calls Tryd.prog 19 #[.slice (some ⟨b, 0, none⟩) n c, .int .i64 H, .slice (some ⟨b2, 0, none⟩) m c2] w fun e w' => e = .returned (.bool (planOk n F H m h)) ∧ Below w.heap.size w w' := by
  go_enter Tryd.func19, Tryd.ntmps19
  go_wp2_with (go_at_call 47; refine (l07Plan_any n hn F hF b c H m hm h b2 c2 _ I I2).mono ?_; rintro e w2 ⟨rfl, hb2⟩)
  go_ret
  exact ⟨rfl, hb2⟩
end Go.Proofs.YtmiafnmenolemaaDoor
