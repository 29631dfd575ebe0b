/-
  What a plan is worth: the model's, the program's; ValidPlan.
-/
import Derived.Test.YtmiafnmenolemaaDoorPlanI
import Derived.Test.YtmiafnmenolemaaDoorRegK
import Derived.Test.YtmiafnmenolemaaDoorRelC
namespace Go.Proofs.YtmiafnmenolemaaDoor
open Go Go.RowKit

theorem load_p64 (b off : Nat) (n : Int) (w : World) (c : w.cell? ⟨b, off, none⟩ = some (.int .i64 n)) : (Instr.loadAt 2 (.pointer (some ⟨b, off, none⟩))).run Tryd.prog w = .ok (.int .i64 n) w := by
  simp [go_sem, c]
theorem implValidPlan (n : Nat) (hn : n ≤ 2 ^ 40) (F : Nat → Nat → Int) (hF : ∀ i, i < n → WfPl (F i)) (b c : Nat) (H : Int) (m : Nat) (hm : m ≤ 2 ^ 40) (h : Nat → Int) (b2 c2 : Nat) (A : Nat → Addr) (w : World) (I : InS w b 0 n ksPlot F) (I2 : InI w b2 0 m h) (hv1 : w.cell? ⟨1, 0, none⟩ = some (errVal (A 1))) :
    Calls Tryd.prog 21 #[.slice (some ⟨b, 0, none⟩) n c, .int .i64 H, .slice (some ⟨b2, 0, none⟩) m c2] w fun e w' => e = .returned (.bool (planOk n F H m h)) ∧ Below w.heap.size w w' := by
  have hif := isIfaceErr
  obtain ⟨p, hp⟩ : ∃ p, planOk n F H m h = p := ⟨_, rfl⟩
  have HP := Lib.hid hp
  rw [hp]
  clear hp
  cases p with
  | false =>
    go_enter Tryd.func21, Tryd.ntmps21
    go_wp2_with (go_at_call 48; refine (checkPlan_any n hn F hF b c H m hm h b2 c2 A _ I I2 hv1).mono ?_; rintro e w2 ⟨rfl, hb2⟩; rw [HP.out, show plErr A false = errVal (A 1) from rfl])
    go_ret
    exact ⟨rfl, hb2⟩
  | true =>
    go_enter Tryd.func21, Tryd.ntmps21
    go_wp2_with (go_at_call 48; refine (checkPlan_any n hn F hF b c H m hm h b2 c2 A _ I I2 hv1).mono ?_; rintro e w2 ⟨rfl, hb2⟩; rw [HP.out, show plErr A true = .nilIface from rfl])
    go_ret
    exact ⟨rfl, hb2⟩
/-- What the first plots are worth on their days. -/
def sumP (F : Nat → Nat → Int) (h : Nat → Int) : Nat → Int
  | 0 => 0
  | k + 1 => sumP F h k + worthA (F k) (h k)
theorem sumP_in {F : Nat → Nat → Int} {h : Nat → Int} : ∀ {n : Nat}, (∀ i, i < n → plotOk (F i) = true) → 0 ≤ sumP F h n ∧ sumP F h n ≤ 1000 * n
  | 0, _ => by simp [sumP]
  | n + 1, hp => by
    have ih := sumP_in (F := F) (h := h) (n := n) (fun i hi => hp i (by omega))
    have h2 := worthA_in (hp n (by omega)) (h n)
    have h3 := plotOk_iff.1 (hp n (by omega))
    unfold sumP; omega
set_option maxRecDepth 100000 in
set_option maxHeartbeats 4000000 in
theorem l07Sum_any (m : Nat) (hm : m ≤ 6) (F : Nat → Nat → Int) (hok : ∀ i, i < m → plotOk (F i) = true) (n b c : Nat) (hmn : m ≤ n) (h : Nat → Int) (hh : ∀ i, i < m → -1 ≤ h i ∧ h i ≤ 19) (b2 c2 : Nat) (w : World) (I : InS w b 0 n ksPlot F) (I2 : InI w b2 0 m h) :
    Calls Tryd.prog 49 #[.slice (some ⟨b, 0, none⟩) n c, .slice (some ⟨b2, 0, none⟩) m c2] w fun e w' => e = .returned (.int .i64 (sumP F h m)) ∧ Below w.heap.size w w' := by
  have HI := Lib.hid I
  have HI2 := Lib.hid I2
  have HH := Lib.hid hh
  have HO := Lib.hid hok
  clear I I2 hh hok
  go_enter Tryd.func49, Tryd.ntmps49
  go_wp2_with fail
  go_loopw [5, 6] (fun v i wr => ∃ k : Nat, k ≤ m ∧ v = .int .i64 (sumP F h k) ∧ i = .int .i64 k ∧ Hid (Below w.heap.size w wr)) (fun _ i _ => m - (intOf i).toNat)
  case atStart => exact ⟨0, by omega, rfl, rfl, Lib.hid (Below.refl _ _)⟩
  case round =>
    obtain ⟨k, hk, rfl, rfl, hb⟩ := hrel
    have hs := sumP_in (F := F) (h := h) (n := k) (fun i hi => HO.out i (by omega))
    obtain ⟨s, hsv⟩ : ∃ s, sumP F h k = s := ⟨_, rfl⟩
    have HSV := Lib.hid hsv
    rw [hsv] at hs ⊢
    clear hsv
    by_cases hlt : k < m
    · have hx := HH.out k hlt
      have hpk := Lib.hid (HO.out k hlt)
      obtain ⟨x, hxv⟩ : ∃ x, h k = x := ⟨_, rfl⟩
      have HX := Lib.hid hxv
      have hwi := worthA_in hpk.out x
      have h0 := (plotOk_iff.1 hpk.out).1
      obtain ⟨v, hv⟩ : ∃ v, worthA (F k) x = v := ⟨_, rfl⟩
      have HV := Lib.hid hv
      rw [hv] at hwi
      have HS := Lib.hid (show sumP F h (k + 1) = s + v by rw [sumP, HSV.out, HX.out, hv])
      have c0 := (HI2.out.later hb.out) k hlt
      rw [Nat.zero_add] at c0
      rw [hxv] at c0 hx
      clear hxv hv
      by_cases hge : 0 ≤ x
      · go_upto_region 6 with (fail)
        clear c0
        have g1 : Hid (∀ w', Below w.heap.size w w' → w'.rangeAt b (0 + k * 4) (srow ksPlot F k).toList) := Lib.hid (fun w' hw' => InS.elem (ks := ksPlot) HI.out (by decide) hw' (by omega))
        have g2 : Hid (∀ w', Below w.heap.size w w' → w'.cell? ⟨b2, 0 + k * 1, none⟩ = some (.int .i64 x)) := Lib.hid (fun w' hw' => by have h9 := (HI2.out.later hw') k hlt; rw [HX.out] at h9; rw [Nat.mul_one]; exact h9)
        have hwr : IntKind.i64.wrap (s + v) = s + v := IntWalk.i64_in _ (by omega)
        refine wp_region_rel (DL [dV (.int .i64 s), dV (.slice (some ⟨b, 0, none⟩) n c), dV (.int .i64 (k : Int)), dV (.pointer (some ⟨b, 0 + k * 4, none⟩)), dV (.agg (srow ksPlot F k)), dV (.slice (some ⟨b2, 0, none⟩) m c2), dV (.int .i64 (k : Int)), dV (.pointer (some ⟨b2, 0 + k * 1, none⟩)), dV (.int .i64 x), dV (.int .i64 v), dV (.int .i64 (s + v)), dV (.int .i64 (s + v))]) (fun w' => Below w.heap.size w w') (by kernel_rfl) (by kernel_rfl) (fun _ _ h h' => h.trans (h'.mono h.size))
          (stays_DL (fun d hd => by
            simp only [List.mem_cons, List.mem_nil_iff, or_false] at hd
            rcases hd with rfl | rfl | rfl | rfl | rfl | rfl | rfl | rfl | rfl | rfl | rfl | rfl <;> exact stay_V)) hb.out.drew ?_
        refine rel_val _ rfl rfl (fun _ _ => rfl) (fun _ => ?_)
        simp only [Act.put, List.setIfInBounds_toArray, List.set_cons_zero, List.set_cons_succ]
        refine rel_val _ rfl rfl (fun _ _ => rfl) (fun _ => ?_)
        simp only [Act.put, List.setIfInBounds_toArray, List.set_cons_zero, List.set_cons_succ]
        refine rel_val _ rfl rfl (fun _ _ => rfl) (fun _ => ?_)
        simp only [Act.put, List.setIfInBounds_toArray, List.set_cons_zero, List.set_cons_succ]
        refine rel_index 25 48 _ _ rfl b 0 n c 4 k rfl rfl (by omega) Tryd.underlying25 (by kernel_rfl) rfl rfl (fun _ => ?_)
        simp only [Act.put, List.setIfInBounds_toArray, List.set_cons_zero, List.set_cons_succ]
        refine rel_load 48 _ rfl b (0 + k * 4) rfl (srow ksPlot F k) _ rfl rfl g1.out Tryd.underlying48 rfl (by rw [srow_size]; kernel_rfl) (fun _ => ?_)
        simp only [Act.put, List.setIfInBounds_toArray, List.set_cons_zero, List.set_cons_succ]
        refine rel_val _ rfl rfl (fun _ _ => rfl) (fun _ => ?_)
        simp only [Act.put, List.setIfInBounds_toArray, List.set_cons_zero, List.set_cons_succ]
        refine rel_val _ rfl rfl (fun _ _ => rfl) (fun _ => ?_)
        simp only [Act.put, List.setIfInBounds_toArray, List.set_cons_zero, List.set_cons_succ]
        refine rel_index 34 2 _ _ rfl b2 0 m c2 1 k rfl rfl hlt Tryd.underlying34 (by kernel_rfl) rfl rfl (fun _ => ?_)
        simp only [Act.put, List.setIfInBounds_toArray, List.set_cons_zero, List.set_cons_succ]
        refine rel_cell 2 _ rfl (b2) (0 + k * 1) rfl (.int .i64 x) rfl rfl (fun w' c => load_p64 _ _ _ w' c) (fun w' hw' => g2.out w' hw') (fun _ => ?_)
        simp only [Act.put, List.setIfInBounds_toArray, List.set_cons_zero, List.set_cons_succ]
        refine rel_call (.int .i64 v) 39 #[.agg (srow ksPlot F k), .int .i64 x] rfl rfl rfl rfl (enters_of Tryd.func39 (by kernel_rfl) rfl) (fun w' _ => by have h9 := l07Worth_any (F k) hpk.out x (by omega) w'; rw [HV.out] at h9; exact h9) (fun _ => ?_)
        simp only [Act.put, List.setIfInBounds_toArray, List.set_cons_zero, List.set_cons_succ]
        refine rel_val (.int .i64 (s + v)) rfl rfl (fun w' _ => by simp [execOp, Act.eval, go_sem, hwr]) (fun _ => ?_)
        simp only [Act.put, List.setIfInBounds_toArray, List.set_cons_zero, List.set_cons_succ]
        refine rel_val _ rfl rfl (fun _ _ => rfl) (fun _ => ?_)
        simp only [Act.put, List.setIfInBounds_toArray, List.set_cons_zero, List.set_cons_succ]
        refine rel_nil (fun W1 inv => ?_)
        have hb1 := Lib.hid inv.cls
        clear inv
        go_wp2_with fail
        go_roundw
        case rel => exact ⟨k + 1, by omega, by rw [HS.out], by go_num, hb1⟩
        case measure => simp [intOf]; omega
      · have hv0 : v = 0 := by rw [← HV.out]; exact worthA_neg hpk.out (by omega)
        subst hv0
        go_wp2_with fail
        go_roundw
        case rel => exact ⟨k + 1, by omega, by rw [HS.out, Int.add_zero], by go_num, hb⟩
        case measure => simp [intOf]; omega
    · obtain rfl : k = m := by omega
      go_wp2_with fail
      go_ret
      exact ⟨by rw [HSV.out]; rfl, hb.out⟩
/-- The answer of a law that asks for a valid plan. -/
def onPlan (n : Nat) (F : Nat → Nat → Int) (H : Int) (m : Nat) (h : Nat → Int) (v : Int) : Int := if planOk n F H m h then v else 0
def planCode (n : Nat) (F : Nat → Nat → Int) (H : Int) (m : Nat) (h : Nat → Int) : Int := if planOk n F H m h then 0 else 1
theorem plan_days {n : Nat} {F : Nat → Nat → Int} {H : Int} {m : Nat} {h : Nat → Int} (e : planOk n F H m h = true) : (∀ i, i < m → plotOk (F i) = true) ∧ m ≤ 6 ∧ m = n ∧ ∀ i, i < m → -1 ≤ h i ∧ h i ≤ 19 := by
  obtain ⟨h1, _, h3, h4⟩ := planOk_iff.1 e
  obtain ⟨h5, h6⟩ := plotsOk_iff.1 h1
  exact ⟨fun i hi => h5 i (by omega), by omega, h3, fun i hi => (planAt_iff.1 (h4 i hi)).1⟩
set_option maxRecDepth 100000 in
set_option maxHeartbeats 1000000 in
theorem specWorthOf (n : Nat) (hn : n ≤ 2 ^ 40) (F : Nat → Nat → Int) (hF : ∀ i, i < n → WfPl (F i)) (b c : Nat) (H : Int) (m : Nat) (hm : m ≤ 2 ^ 40) (h : Nat → Int) (b2 c2 : Nat) (w : World) (I : InS w b 0 n ksPlot F) (I2 : InI w b2 0 m h) :
    Calls Tryd.prog 23 #[.slice (some ⟨b, 0, none⟩) n c, .int .i64 H, .slice (some ⟨b2, 0, none⟩) m c2] w fun e w' => e = .returned (.tuple #[.int .i64 (onPlan n F H m h (sumP F h m)), .int .i64 (planCode n F H m h)]) ∧ Below w.heap.size w w' := by
  have HI := Lib.hid I
  have HI2 := Lib.hid I2
  clear I I2
  obtain ⟨p, hp⟩ : ∃ p, planOk n F H m h = p := ⟨_, rfl⟩
  have HP := Lib.hid hp
  cases p with
  | false =>
    have e1 : Hid (onPlan n F H m h (sumP F h m) = 0) := Lib.hid (by unfold onPlan; rw [hp]; rfl)
    have e2 : Hid (planCode n F H m h = 1) := Lib.hid (by unfold planCode; rw [hp]; rfl)
    rw [e1.out, e2.out]
    clear hp
    go_enter Tryd.func23, Tryd.ntmps23
    go_wp2_with (go_at_call 47; refine (l07Plan_any n hn F hF b c H m hm h b2 c2 _ HI.out HI2.out).mono ?_; rintro e w2 ⟨rfl, hb2⟩; rw [HP.out])
    go_ret2
    exact ⟨rfl, hb2⟩
  | true =>
    have e1 : Hid (onPlan n F H m h (sumP F h m) = sumP F h m) := Lib.hid (by unfold onPlan; rw [hp]; rfl)
    have e2 : Hid (planCode n F H m h = 0) := Lib.hid (by unfold planCode; rw [hp]; rfl)
    rw [e1.out, e2.out]
    have HD := Lib.hid (plan_days hp)
    clear hp
    go_enter Tryd.func23, Tryd.ntmps23
    go_wp2_with (first
      | (go_at_call 47; refine (l07Plan_any n hn F hF b c H m hm h b2 c2 _ HI.out HI2.out).mono ?_; rintro e w2 ⟨rfl, hb2⟩; rw [HP.out])
      | (go_at_call 49; refine (l07Sum_any m HD.out.2.1 F HD.out.1 n b c (by have := HD.out.2.2.1; omega) h HD.out.2.2.2 b2 c2 _ (HI.out.later hb2) (HI2.out.later hb2)).mono ?_; rintro e w3 ⟨rfl, hb3⟩))
    go_ret2
    exact ⟨rfl, hb2.trans (hb3.mono hb2.size)⟩
set_option maxRecDepth 100000 in
set_option maxHeartbeats 4000000 in
theorem implWorthOf (n : Nat) (hn : n ≤ 2 ^ 40) (F : Nat → Nat → Int) (hF : ∀ i, i < n → WfPl (F i)) (b c : Nat) (H : Int) (m : Nat) (hm : m ≤ 2 ^ 40) (h : Nat → Int) (b2 c2 : Nat) (A : Nat → Addr) (w : World) (I : InS w b 0 n ksPlot F) (I2 : InI w b2 0 m h) (S0 : Sents w A) :
    Calls Tryd.prog 24 #[.slice (some ⟨b, 0, none⟩) n c, .int .i64 H, .slice (some ⟨b2, 0, none⟩) m c2] w fun e w' => e = .returned (.tuple #[.int .i64 (onPlan n F H m h (sumP F h m)), .int .i64 (planCode n F H m h)]) ∧ Below w.heap.size w w' := by
  have S : Hid (Sents w A) := Lib.hid S0
  clear S0
  have hif := isIfaceErr
  have HI := Lib.hid I
  have HI2 := Lib.hid I2
  clear I I2
  obtain ⟨p, hp⟩ : ∃ p, planOk n F H m h = p := ⟨_, rfl⟩
  have HP := Lib.hid hp
  cases p with
  | false =>
    have e1 : Hid (onPlan n F H m h (sumP F h m) = 0) := Lib.hid (by unfold onPlan; rw [hp]; rfl)
    have e2 : Hid (planCode n F H m h = 1) := Lib.hid (by unfold planCode; rw [hp]; rfl)
    rw [e1.out, e2.out]
    clear hp
    go_enter Tryd.func24, Tryd.ntmps24
    go_wp2_with (first
      | (go_at_call 48; refine (checkPlan_any n hn F hF b c H m hm h b2 c2 A _ HI.out HI2.out S.out.v1).mono ?_; rintro e w2 ⟨rfl, hb2⟩; rw [HP.out, show plErr A false = errVal (A 1) from rfl])
      | (go_at_call 41; refine (codeOf_err A 1 (by omega) (by omega) _ (S.out.later hb2)).mono ?_; rintro e w' ⟨rfl, rfl⟩))
    go_ret2
    exact ⟨rfl, hb2⟩
  | true =>
    have e1 : Hid (onPlan n F H m h (sumP F h m) = sumP F h m) := Lib.hid (by unfold onPlan; rw [hp]; rfl)
    have e2 : Hid (planCode n F H m h = 0) := Lib.hid (by unfold planCode; rw [hp]; rfl)
    rw [e1.out, e2.out]
    obtain ⟨ho, hm6, rfl, hh⟩ := plan_days hp
    have HO := Lib.hid ho
    have HH := Lib.hid hh
    clear hp ho hh
    go_enter Tryd.func24, Tryd.ntmps24
    go_wp2_with (go_at_call 48; refine (checkPlan_any m hn F hF b c H m hm h b2 c2 A _ HI.out HI2.out S.out.v1).mono ?_; rintro e w2 ⟨rfl, hb2⟩; rw [HP.out, show plErr A true = .nilIface from rfl]; have HB2 := Lib.hid hb2; clear hb2)
    go_loopw [9, 22] (fun v i wr => ∃ k : Nat, k ≤ m ∧ v = .int .i64 (sumP F h k) ∧ i = .int .i64 k ∧ Hid (Below w.heap.size w wr)) (fun _ i _ => m - (intOf i).toNat)
    case atStart => exact ⟨0, by omega, rfl, rfl, HB2⟩
    case round =>
      clear HB2
      obtain ⟨k, hk, rfl, rfl, hb⟩ := hrel
      have hs := sumP_in (F := F) (h := h) (n := k) (fun i hi => HO.out i (by omega))
      obtain ⟨s, hsv⟩ : ∃ s, sumP F h k = s := ⟨_, rfl⟩
      have HSV := Lib.hid hsv
      rw [hsv] at hs ⊢
      clear hsv
      by_cases hlt : k < m
      · have hx := HH.out k hlt
        have hpk := Lib.hid (HO.out k hlt)
        obtain ⟨x, hxv⟩ : ∃ x, h k = x := ⟨_, rfl⟩
        have HX := Lib.hid hxv
        have hwi := worthA_in hpk.out x
        have h0 := (plotOk_iff.1 hpk.out).1
        obtain ⟨v, hv⟩ : ∃ v, worthA (F k) x = v := ⟨_, rfl⟩
        have HV := Lib.hid hv
        rw [hv] at hwi
        have HS := Lib.hid (show sumP F h (k + 1) = s + v by rw [sumP, HSV.out, HX.out, hv])
        have d0 := (HI2.out.later hb.out) k hlt
        rw [Nat.zero_add] at d0
        rw [hxv] at d0 hx
        obtain ⟨c0, c1, c2, c3⟩ := row_at (HI.out.later hb.out) hlt
        clear hxv hv
        go_wp2_with (go_at_call 42; refine (worthOn_any (F k) hpk.out x (by omega) _).mono ?_; rintro e w3 ⟨rfl, hb3⟩; rw [HV.out]; have hb4 := Lib.hid (hb.out.trans (hb3.mono hb.out.size)); clear hb3)
        go_roundw
        case rel => exact ⟨k + 1, by omega, by rw [HS.out], by go_num, hb4⟩
        case measure => simp [intOf]; omega
      · obtain rfl : k = m := by omega
        go_wp2_with fail
        go_ret2
        exact ⟨by rw [HSV.out]; rfl, hb.out⟩
end Go.Proofs.YtmiafnmenolemaaDoor
