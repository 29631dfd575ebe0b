/-
  WorthBound: the model's, the program's.
-/
import Derived.Test.YtmiafnmenolemaaDoorDayB
namespace Go.Proofs.YtmiafnmenolemaaDoor
open Go Go.RowKit

/-- The sum of the greatest worths of the first plots. -/
def boundTo (F : Nat → Nat → Int) (m : Nat) : Nat → Int
  | 0 => 0
  | k + 1 => boundTo F m k + worthA (F k) (bestD (F k) m)
theorem boundTo_in {F : Nat → Nat → Int} {m : Nat} : ∀ {n : Nat}, (∀ i, i < n → plotOk (F i) = true) → 0 ≤ boundTo F m n ∧ boundTo F m n ≤ 1000 * n
  | 0, _ => by simp [boundTo]
  | n + 1, h => by
    have ih := boundTo_in (F := F) (m := m) (n := n) (fun i hi => h i (by omega))
    have h2 := worthA_in (h n (by omega)) (bestD (F n) m)
    have h3 := plotOk_iff.1 (h n (by omega))
    unfold boundTo; omega
def boundVal (n : Nat) (F : Nat → Nat → Int) (d : Int) : Int := onPlot n F (inB d 1 20) (boundTo F d.toNat n)
set_option maxRecDepth 100000 in
set_option maxHeartbeats 2000000 in
theorem specWorthBound (n : Nat) (hn : n ≤ 2 ^ 40) (F : Nat → Nat → Int) (hF : ∀ i, i < n → WfPl (F i)) (b c : Nat) (d : Int) (w : World) (I : InS w b 0 n ksPlot F) :
    Calls Tryd.prog 30 #[.slice (some ⟨b, 0, none⟩) n c, .int .i64 d] w fun e w' => e = .returned (.tuple #[.int .i64 (boundVal n F d), .int .i64 (plotsAsk n F (inB d 1 20))]) ∧ Below w.heap.size w w' := by
  have HI := Lib.hid I
  have HF := Lib.hid hF
  clear I hF
  unfold boundVal
  obtain ⟨q2, h2⟩ : ∃ q, inB d 1 20 = q := ⟨_, rfl⟩
  have H2 := Lib.hid h2
  rw [h2]
  clear h2
  obtain ⟨p, hp⟩ : ∃ p, plotsOk n F = p := ⟨_, rfl⟩
  obtain ⟨cd, hcd⟩ : ∃ x, plotsAsk n F q2 = x := ⟨_, rfl⟩
  have HC := Lib.hid hcd
  by_cases hall : p = true ∧ q2 = true
  · obtain ⟨rfl, rfl⟩ := hall
    have e2 : cd = 0 := by rw [← hcd, plotsAsk_yes hp]; rfl
    have e1 : Hid (onPlot n F true (boundTo F d.toNat n) = boundTo F d.toNat n) := Lib.hid (by unfold onPlot; rw [hp]; rfl)
    have hd := inB_iff.1 H2.out
    obtain ⟨m, rfl⟩ : ∃ m : Nat, d = m := ⟨d.toNat, by omega⟩
    have hn6 := (plotsOk_iff.1 hp).2
    have hok := Lib.hid (plotsOk_iff.1 hp).1
    subst e2
    rw [e1.out, hcd]
    simp only [Int.toNat_natCast]
    clear hp hcd e1
    go_enter Tryd.func30, Tryd.ntmps30
    go_wp2_with (first
      | (go_at_call 43; refine (l07Days_any _ _).mono ?_; rintro e w' ⟨rfl, rfl⟩; rw [H2.out])
      | (go_at_call 36; refine (l07Asked_any n hn F HF.out b c _ _ HI.out).mono ?_; rintro e w2 ⟨rfl, hb2⟩; rw [HC.out]))
    have HB2 := Lib.hid hb2
    clear hb2
    go_loopw [7, 8] (fun v i wr => ∃ k : Nat, k ≤ n ∧ v = .int .i64 (boundTo F m k) ∧ i = .int .i64 k ∧ Hid (Below w.heap.size w wr)) (fun _ i _ => n - (intOf i).toNat)
    case atStart => exact ⟨0, by omega, rfl, rfl, HB2⟩
    case round =>
      clear HB2
      obtain ⟨k, hk, rfl, rfl, hb⟩ := hrel
      by_cases hlt : k < n
      · obtain ⟨c0, c1, c2, c3⟩ := row_at (HI.out.later hb.out) hlt
        have hpk := Lib.hid (hok.out k hlt)
        have hs := boundTo_in (m := m) (n := k) (fun i hi => hok.out i (by omega))
        obtain ⟨s, hsv⟩ : ∃ s, boundTo F m k = s := ⟨_, rfl⟩
        obtain ⟨v, hv⟩ : ∃ v, worthA (F k) (bestD (F k) m) = v := ⟨_, rfl⟩
        have hw := worthA_in hpk.out (bestD (F k) m)
        have h0 := (plotOk_iff.1 hpk.out).1
        have HS := Lib.hid (show boundTo F m (k + 1) = s + v by rw [boundTo, hsv, hv])
        rw [hsv] at hs ⊢
        rw [hv] at hw
        have HV := Lib.hid hv
        clear hsv hv
        go_wp2_with (go_at_call 44; refine (l07Best_any (F k) hpk.out m (by omega) _).mono ?_; rintro e w3 ⟨rfl, hb3⟩; rw [HV.out]; have hb4 := Lib.hid (hb.out.trans (hb3.mono hb.out.size)); clear hb3)
        go_roundw
        case rel => exact ⟨k + 1, by omega, by rw [HS.out], by go_num, hb4⟩
        case measure => simp [intOf]; omega
      · obtain rfl : k = n := by omega
        go_wp2_with fail
        go_ret2
        exact ⟨rfl, hb.out⟩
  · have hne : Hid (¬ cd = 0) := Lib.hid (by
      rw [← hcd]
      cases p with
      | false => rw [plotsAsk_no hp]; decide
      | true =>
        cases q2 with
        | false => rw [plotsAsk_yes hp]; decide
        | true => exact absurd ⟨rfl, rfl⟩ hall)
    have e1 : Hid (onPlot n F q2 (boundTo F d.toNat n) = 0) := Lib.hid (by
      unfold onPlot
      rw [hp]
      cases p <;> cases q2 <;> first | rfl | exact absurd ⟨rfl, rfl⟩ hall)
    rw [e1.out, hcd]
    have hne2 := hne.out
    clear hp hcd hall e1
    go_enter Tryd.func30, Tryd.ntmps30
    go_wp2_with (first
      | (go_at_call 43; refine (l07Days_any _ _).mono ?_; rintro e w' ⟨rfl, rfl⟩; rw [H2.out])
      | (go_at_call 36; refine (l07Asked_any n hn F HF.out b c _ _ HI.out).mono ?_; rintro e w2 ⟨rfl, hb2⟩; rw [HC.out]))
    go_ret2
    exact ⟨rfl, hb2⟩
/-- The program's error where days are asked for. -/
def daysErr (A : Nat → Addr) (n : Nat) (F : Nat → Nat → Int) (q : Bool) : Value := if plotsOk n F then (if q then .nilIface else errVal (A 2)) else errVal (A 1)
set_option maxRecDepth 100000 in
set_option maxHeartbeats 1000000 in
theorem checkDays_any (n : Nat) (hn : n ≤ 2 ^ 40) (F : Nat → Nat → Int) (hF : ∀ i, i < n → WfPl (F i)) (b c : Nat) (d : Int) (A : Nat → Addr) (w : World) (I : InS w b 0 n ksPlot F) (S0 : Sents w A) :
    Calls Tryd.prog 50 #[.slice (some ⟨b, 0, none⟩) n c, .int .i64 d] w fun e w' => e = .returned (daysErr A n F (inB d 1 20)) ∧ Below w.heap.size w w' := by
  have S : Hid (Sents w A) := Lib.hid S0
  clear S0
  have HI := Lib.hid I
  have HF := Lib.hid hF
  clear I hF
  have hif := isIfaceErr
  unfold daysErr
  obtain ⟨p, hp⟩ : ∃ p, plotsOk n F = p := ⟨_, rfl⟩
  have HP := Lib.hid hp
  obtain ⟨q, hq⟩ : ∃ q, inB d 1 20 = q := ⟨_, rfl⟩
  have HQ := Lib.hid hq
  rw [hp, hq]
  clear hp hq
  cases p with
  | false =>
    go_enter Tryd.func50, Tryd.ntmps50
    go_wp2_with (go_at_call 34; refine (checkPlots_any n hn F HF.out b c A _ HI.out S.out.v1).mono ?_; rintro e w2 ⟨rfl, hb2⟩; rw [HP.out, show plErr A false = errVal (A 1) from rfl])
    go_ret
    exact ⟨rfl, hb2⟩
  | true =>
    cases q with
    | false =>
      go_enter Tryd.func50, Tryd.ntmps50
      go_wp2_with (first
        | (go_at_call 34; refine (checkPlots_any n hn F HF.out b c A _ HI.out S.out.v1).mono ?_; rintro e w2 ⟨rfl, hb2⟩; rw [HP.out, show plErr A true = .nilIface from rfl]; have v2 := (S.out.later hb2).v2)
        | (go_at_call 45; refine (isDays_any _ _).mono ?_; rintro e w' ⟨rfl, rfl⟩; rw [HQ.out]))
      go_ret
      exact ⟨rfl, hb2⟩
    | true =>
      go_enter Tryd.func50, Tryd.ntmps50
      go_wp2_with (first
        | (go_at_call 34; refine (checkPlots_any n hn F HF.out b c A _ HI.out S.out.v1).mono ?_; rintro e w2 ⟨rfl, hb2⟩; rw [HP.out, show plErr A true = .nilIface from rfl])
        | (go_at_call 45; refine (isDays_any _ _).mono ?_; rintro e w' ⟨rfl, rfl⟩; rw [HQ.out]))
      go_ret
      exact ⟨rfl, hb2⟩
/-- What the program's error is, by the model's code. -/
theorem daysErr_code (A : Nat → Addr) (n : Nat) (F : Nat → Nat → Int) (q : Bool) : (plotsAsk n F q = 0 ∧ daysErr A n F q = .nilIface) ∨ (∃ k : Nat, 1 ≤ k ∧ k ≤ 8 ∧ plotsAsk n F q = k ∧ daysErr A n F q = errVal (A k)) := by
  unfold plotsAsk daysErr
  cases plotsOk n F <;> cases q
  · exact .inr ⟨1, by omega, by omega, rfl, rfl⟩
  · exact .inr ⟨1, by omega, by omega, rfl, rfl⟩
  · exact .inr ⟨2, by omega, by omega, rfl, rfl⟩
  · exact .inl ⟨rfl, rfl⟩
theorem ask_zero {n : Nat} {F : Nat → Nat → Int} {q : Bool} (h : plotsAsk n F q = 0) : plotsOk n F = true ∧ q = true := by
  unfold plotsAsk at h
  cases hp : plotsOk n F <;> cases q <;> rw [hp] at h <;> first | exact ⟨rfl, rfl⟩ | (simp at h)
theorem ask_some {n : Nat} {F : Nat → Nat → Int} {q : Bool} {v : Int} {k : Nat} (h1 : 1 ≤ k) (h : plotsAsk n F q = k) : onPlot n F q v = 0 := by
  unfold plotsAsk at h
  unfold onPlot
  cases hp : plotsOk n F <;> cases q <;> rw [hp] at h <;> first | rfl | (simp at h; omega)
set_option maxRecDepth 100000 in
set_option maxHeartbeats 2000000 in
theorem implWorthBound (n : Nat) (hn : n ≤ 2 ^ 40) (F : Nat → Nat → Int) (hF : ∀ i, i < n → WfPl (F i)) (b c : Nat) (d : Int) (A : Nat → Addr) (w : World) (I : InS w b 0 n ksPlot F) (S0 : Sents w A) :
    Calls Tryd.prog 31 #[.slice (some ⟨b, 0, none⟩) n c, .int .i64 d] w fun e w' => e = .returned (.tuple #[.int .i64 (boundVal n F d), .int .i64 (plotsAsk n F (inB d 1 20))]) ∧ Below w.heap.size w w' := by
  have S : Hid (Sents w A) := Lib.hid S0
  clear S0
  have HI := Lib.hid I
  have HF := Lib.hid hF
  clear I hF
  have hif := isIfaceErr
  unfold boundVal
  obtain ⟨q2, h2⟩ : ∃ q, inB d 1 20 = q := ⟨_, rfl⟩
  have H2 := Lib.hid h2
  rw [h2]
  clear h2
  rcases daysErr_code A n F q2 with ⟨hc, he⟩ | ⟨k, hk1, hk8, hc, he⟩
  · obtain ⟨hp, rfl⟩ := ask_zero hc
    have e1 : Hid (onPlot n F true (boundTo F d.toNat n) = boundTo F d.toNat n) := Lib.hid (by unfold onPlot; rw [hp]; rfl)
    have hd := inB_iff.1 H2.out
    obtain ⟨m, rfl⟩ : ∃ m : Nat, d = m := ⟨d.toNat, by omega⟩
    have hn6 := (plotsOk_iff.1 hp).2
    have hok := Lib.hid (plotsOk_iff.1 hp).1
    have HE := Lib.hid he
    rw [e1.out, hc]
    simp only [Int.toNat_natCast]
    clear hp he hc e1
    go_enter Tryd.func31, Tryd.ntmps31
    go_wp2_with (go_at_call 50; refine (checkDays_any n hn F HF.out b c m A _ HI.out S.out).mono ?_; rintro e w2 ⟨rfl, hb2⟩; rw [H2.out, HE.out])
    have HB2 := Lib.hid hb2
    clear hb2
    go_loopw [7, 21] (fun v i wr => ∃ k : Nat, k ≤ n ∧ v = .int .i64 (boundTo F m k) ∧ i = .int .i64 k ∧ Hid (Below w.heap.size w wr)) (fun _ i _ => n - (intOf i).toNat)
    case atStart => exact ⟨0, by omega, rfl, rfl, HB2⟩
    case round =>
      clear HB2
      obtain ⟨k, hk, rfl, rfl, hb⟩ := hrel
      by_cases hlt : k < n
      · obtain ⟨c0, c1, c2, c3⟩ := row_at (HI.out.later hb.out) hlt
        have hpk := Lib.hid (hok.out k hlt)
        have hs := boundTo_in (m := m) (n := k) (fun i hi => hok.out i (by omega))
        obtain ⟨s, hsv⟩ : ∃ s, boundTo F m k = s := ⟨_, rfl⟩
        obtain ⟨v, hv⟩ : ∃ v, worthA (F k) (bestD (F k) m) = v := ⟨_, rfl⟩
        have hw := worthA_in hpk.out (bestD (F k) m)
        have h0 := (plotOk_iff.1 hpk.out).1
        have HS := Lib.hid (show boundTo F m (k + 1) = s + v by rw [boundTo, hsv, hv])
        rw [hsv] at hs ⊢
        rw [hv] at hw
        have HV := Lib.hid hv
        clear hsv hv
        go_upto_region 8 with (fail)
        clear c0 c1 c2 c3
        have hb1 := Lib.hid (hb.out.alloc hb.out.size (.cells (cPlot (F k)) 48))
        have hX := Lib.hid (Blk.new wr (cPlot (F k)) 48)
        generalize World.alloc _ _ = W1 at hb1 hX ⊢
        go_wp2_with (first
          | (refine wpList_load_part rfl 48 _ rfl wr.heap.size 0 rfl (cPlot (F k)) _ hX.out.whole Tryd.underlying48 rfl (by kernel_rfl) ?_)
          | (go_at_call 46; refine (bestDay_any (F k) hpk.out m (by omega) _).mono ?_; rintro e w3 ⟨rfl, hb3⟩; rw [HV.out]; have hb4 := Lib.hid (hb1.out.trans (hb3.mono hb1.out.size)); clear hb3))
        go_roundw
        case rel => exact ⟨k + 1, by omega, by rw [HS.out], by go_num, hb4⟩
        case measure => simp [intOf]; omega
      · obtain rfl : k = n := by omega
        go_wp2_with fail
        go_ret2
        exact ⟨rfl, hb.out⟩
  · have e1 : Hid (onPlot n F q2 (boundTo F d.toNat n) = 0) := Lib.hid (ask_some hk1 hc)
    have HE := Lib.hid he
    rw [e1.out, hc]
    clear hc he e1
    go_enter Tryd.func31, Tryd.ntmps31
    go_wp2_with (first
      | (go_at_call 50; refine (checkDays_any n hn F HF.out b c d A _ HI.out S.out).mono ?_; rintro e w2 ⟨rfl, hb2⟩; rw [H2.out, HE.out])
      | (go_at_call 41; refine (codeOf_err A k hk1 hk8 _ (S.out.later hb2)).mono ?_; rintro e w' ⟨rfl, rfl⟩))
    go_ret2
    exact ⟨rfl, hb2⟩
end Go.Proofs.YtmiafnmenolemaaDoor
