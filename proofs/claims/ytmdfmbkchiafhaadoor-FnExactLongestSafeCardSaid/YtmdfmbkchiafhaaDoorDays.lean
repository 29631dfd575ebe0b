/-
  DaysSafe: the model's and the program's.
-/
import Derived.Test.YtmdfmbkchiafhaaDoorAgeN
import Derived.Test.YtmdfmbkchiafhaaDoorPowC
namespace Go.Proofs.YtmdfmbkchiafhaaDoor
open Go Go.RowKit

theorem SO.ins0 {ks : List IntKind} {t : TypeId} {lo : Nat} {w : World} {b n : Nat} {F : Nat → Nat → Int} (h : SO ks t lo w (some ⟨b, 0, none⟩) n F) : InS w b 0 n ks F := by
  rcases h.inS with rfl | ⟨b', o, e, _, _, I⟩
  · exact fun i hi => absurd hi (Nat.not_lt_zero i)
  · cases e; exact I
/-- The first day, of d and the m behind it, on which the fear is less. -/
def dsFrom (F : Nat → Nat → Int) (c : Int) (n : Nat) (x : Int) : Nat → Nat → Nat
  | 0, d => d
  | m + 1, d => if x ≤ fearTo (aged F (d : Int)) c n then dsFrom F c n x m (d + 1) else d
def dsAll (F : Nat → Nat → Int) (c : Int) (n : Nat) (x : Int) : Nat := dsFrom F c n x 30 0
theorem aged0 (F : Nat → Nat → Int) (d : Int) (i : Nat) : aged F d i 0 = F i 0 := by simp [aged]
theorem aged1 (F : Nat → Nat → Int) (d : Int) (i : Nat) : aged F d i 1 = F i 1 := by simp [aged]
theorem aged2 (F : Nat → Nat → Int) (d : Int) (i : Nat) : aged F d i 2 = ageV (F i 2) d := by simp [aged]
theorem shape_aged {F : Nat → Nat → Int} {i : Nat} {d : Int} (h : shapeOk (F i) = true) (hd : 0 ≤ d ∧ d ≤ 1000) : shapeOk (aged F d i) = true := by
  have h2 := ageV_in (shape_ageA h) hd
  unfold shapeOk at h ⊢
  rw [aged0, aged1, aged2]
  simp only [Bool.and_eq_true] at h ⊢
  exact ⟨h.1, inB_iff.2 h2⟩
theorem wf_aged {F : Nat → Nat → Int} {i : Nat} {d : Int} (h : shapeOk (F i) = true) (hw : WfT (F i)) (hd : 0 ≤ d ∧ d ≤ 1000) : WfT (aged F d i) := by
  have h2 := ageV_in (shape_ageA h) hd
  exact ⟨by rw [aged0]; exact hw.b0, by rw [aged1]; exact hw.b1, by rw [aged2]; omega⟩
theorem cnt_old {a : Nat → Int} (h : shapeOk a = true) (h2 : a 2 = 30) : cntA a = 0 := by
  simp only [shapeOk, Bool.and_eq_true, inB_iff] at h
  unfold cntA
  rw [h2]
  exact Int.ediv_eq_zero_of_lt (by omega) (show a 1 < 2 ^ 10 by omega)
theorem fear_old {F : Nat → Nat → Int} (c : Int) : ∀ {n : Nat}, (∀ i, i < n → shapeOk (F i) = true) → fearTo (aged F ((30 : Nat) : Int)) c n = 0
  | 0, _ => rfl
  | n + 1, h => by
    have ih := fear_old (F := F) c (n := n) (fun i hi => h i (by omega))
    have hs := h n (by omega)
    have h1 := shape_aged (d := ((30 : Nat) : Int)) hs ⟨by decide, by decide⟩
    have hx := shape_ageA hs
    have h2 : aged F ((30 : Nat) : Int) n 2 = 30 := by rw [aged2]; unfold ageV; split <;> omega
    unfold fearTo
    rw [ih]
    unfold fearA
    rw [cnt_old h1 h2, Int.zero_ediv]; rfl
theorem ds_step {F : Nat → Nat → Int} {c : Int} {n : Nat} {x : Int} {k : Nat} (hk : k ≤ 30) (hS : ∀ i, i < n → shapeOk (F i) = true) (hx : 1 ≤ x) (h : x ≤ fearTo (aged F (k : Int)) c n) : k < 30 ∧ dsFrom F c n x (30 - (k + 1)) (k + 1) = dsFrom F c n x (30 - k) k := by
  have h30 : k < 30 := by
    rcases Nat.lt_or_ge k 30 with h1 | h1
    · exact h1
    · obtain rfl : k = 30 := by omega
      rw [fear_old c hS] at h; omega
  refine ⟨h30, ?_⟩
  obtain ⟨m, hm⟩ : ∃ m, 30 - k = m + 1 := ⟨30 - k - 1, by omega⟩
  rw [hm, show 30 - (k + 1) = m by omega]
  show _ = if x ≤ fearTo (aged F (k : Int)) c n then dsFrom F c n x m (k + 1) else k
  rw [if_pos h]
theorem ds_end {F : Nat → Nat → Int} {c : Int} {n : Nat} {x : Int} {k : Nat} (h : ¬ x ≤ fearTo (aged F (k : Int)) c n) : ∀ m, dsFrom F c n x m k = k
  | 0 => rfl
  | m + 1 => by
    show (if x ≤ fearTo (aged F (k : Int)) c n then dsFrom F c n x m (k + 1) else k) = k
    rw [if_neg h]
set_option maxRecDepth 100000 in
set_option maxHeartbeats 8000000 in
theorem l03Days_any (n : Nat) (hn : n ≤ 2 ^ 40) (F : Nat → Nat → Int) (hF : ∀ i, i < n → WfT (F i)) (hS : ∀ i, i < n → shapeOk (F i) = true) (c : Int) (hc : 0 ≤ c ∧ c ≤ 99) (x : Int) (hx : 1 ≤ x ∧ x ≤ 1000) (b cap : Nat) (w : World) (I : InS w b 0 n ksScarecrow F) :
    Calls Tryd.prog 40 #[.slice (some ⟨b, 0, none⟩) n cap, .int .i64 c, .int .i64 x] w fun e w' => e = .returned (.int .i64 (dsAll F c n x : Nat)) ∧ Below w.heap.size w w' := by
  have HI := Lib.hid I
  have HS := Lib.hid hS
  have HF := Lib.hid hF
  have HX := Lib.hid hx
  clear I hS hF
  obtain ⟨hx1, hx2⟩ := hx
  go_enter Tryd.func40, Tryd.ntmps40
  go_wp2_with fail
  go_loopw [7] (fun v wr => ∃ k : Nat, k ≤ 30 ∧ v = .int .i64 k ∧ Hid (dsFrom F c n x (30 - k) k = dsAll F c n x) ∧ Below w.heap.size w wr) (fun v _ => 30 - (intOf v).toNat)
  case atStart => exact ⟨0, by omega, rfl, Lib.hid rfl, Below.refl _ _⟩
  case round =>
    obtain ⟨k, hk, rfl, hD, hb⟩ := hrel
    have hkd : 0 ≤ (k : Int) ∧ (k : Int) ≤ 1000 := ⟨by omega, by omega⟩
    have HKD := Lib.hid hkd
    have HSA := Lib.hid (fun i (hi : i < n) => shape_aged (F := F) (d := (k : Int)) (HS.out i hi) HKD.out)
    have HFA := Lib.hid (fun i (hi : i < n) => wf_aged (F := F) (d := (k : Int)) (HS.out i hi) (HF.out i hi) HKD.out)
    obtain ⟨u1, u2⟩ := fearTo_in (F := aged F (k : Int)) hc (n := n) HSA.out
    obtain ⟨v, hv⟩ : ∃ v, fearTo (aged F (k : Int)) c n = v := ⟨_, rfl⟩
    have HV := Lib.hid hv
    rw [hv] at u1 u2
    clear hkd
    by_cases hle : x ≤ v
    · have hst := ds_step (k := k) hk HS.out HX.out.1 (by rw [hv]; exact hle)
      have HST := Lib.hid hst.2
      have h30 := hst.1
      clear hst hv
      go_wp2_with (first
        | (go_at_call 76; refine (l03Older_any n hn F HS.out (k : Int) HKD.out b cap _ (HI.out.later hb)).mono ?_; rintro e w2 ⟨b2, c2, rfl, hO, hb2⟩; have I2 := Lib.hid hO.ins0; have hB2 := hb.trans (hb2.mono hb.size); clear hO hb2)
        | (go_at_call 75; refine (l03Fear_any n hn (aged F (k : Int)) HFA.out HSA.out c hc b2 c2 _ I2.out).mono ?_; rintro e w3 ⟨rfl, hb3⟩; rw [HV.out]; have hB3 := hB2.trans (hb3.mono hB2.size); clear hB2 hb3 I2))
      go_roundw
      case rel => exact ⟨k + 1, by omega, by go_num, Lib.hid (HST.out.trans hD.out), hB3⟩
      case measure => simp [intOf]; omega
    · have hen := Lib.hid (ds_end (F := F) (c := c) (n := n) (x := x) (k := k) (by rw [hv]; exact hle) (30 - k))
      clear hv
      go_wp2_with (first
        | (go_at_call 76; refine (l03Older_any n hn F HS.out (k : Int) HKD.out b cap _ (HI.out.later hb)).mono ?_; rintro e w2 ⟨b2, c2, rfl, hO, hb2⟩; have I2 := Lib.hid hO.ins0; have hB2 := hb.trans (hb2.mono hb.size); clear hO hb2)
        | (go_at_call 75; refine (l03Fear_any n hn (aged F (k : Int)) HFA.out HSA.out c hc b2 c2 _ I2.out).mono ?_; rintro e w3 ⟨rfl, hb3⟩; rw [HV.out]; have hB3 := hB2.trans (hb3.mono hB2.size); clear hB2 hb3 I2))
      go_ret
      exact ⟨by rw [← hD.out, hen.out]; rfl, hB3⟩
set_option maxRecDepth 100000 in
set_option maxHeartbeats 8000000 in
theorem daysSafe_any (n : Nat) (hn : n ≤ 2 ^ 40) (F : Nat → Nat → Int) (hF : ∀ i, i < n → WfT (F i)) (hS : ∀ i, i < n → shapeOk (F i) = true) (c : Int) (hc : 0 ≤ c ∧ c ≤ 99) (x : Int) (hx : 1 ≤ x ∧ x ≤ 1000) (b cap : Nat) (w : World) (I : InS w b 0 n ksScarecrow F) :
    Calls Tryd.prog 48 #[.slice (some ⟨b, 0, none⟩) n cap, .int .i64 c, .int .i64 x] w fun e w' => e = .returned (.int .i64 (dsAll F c n x : Nat)) ∧ Below w.heap.size w w' := by
  have HI := Lib.hid I
  have HS := Lib.hid hS
  have HF := Lib.hid hF
  have HX := Lib.hid hx
  clear I hS hF
  obtain ⟨hx1, hx2⟩ := hx
  go_enter Tryd.func48, Tryd.ntmps48
  go_wp2_with fail
  go_loopw [7] (fun v wr => ∃ k : Nat, k ≤ 30 ∧ v = .int .i64 k ∧ Hid (dsFrom F c n x (30 - k) k = dsAll F c n x) ∧ Below w.heap.size w wr) (fun v _ => 30 - (intOf v).toNat)
  case atStart => exact ⟨0, by omega, rfl, Lib.hid rfl, Below.refl _ _⟩
  case round =>
    obtain ⟨k, hk, rfl, hD, hb⟩ := hrel
    have hkd : 0 ≤ (k : Int) ∧ (k : Int) ≤ 1000 := ⟨by omega, by omega⟩
    have HKD := Lib.hid hkd
    have HSA := Lib.hid (fun i (hi : i < n) => shape_aged (F := F) (d := (k : Int)) (HS.out i hi) HKD.out)
    have HFA := Lib.hid (fun i (hi : i < n) => wf_aged (F := F) (d := (k : Int)) (HS.out i hi) (HF.out i hi) HKD.out)
    obtain ⟨u1, u2⟩ := fearTo_in (F := aged F (k : Int)) hc (n := n) HSA.out
    obtain ⟨v, hv⟩ : ∃ v, fearTo (aged F (k : Int)) c n = v := ⟨_, rfl⟩
    have HV := Lib.hid hv
    rw [hv] at u1 u2
    clear hkd
    by_cases hle : x ≤ v
    · have hst := ds_step (k := k) hk HS.out HX.out.1 (by rw [hv]; exact hle)
      have HST := Lib.hid hst.2
      have h30 := hst.1
      clear hst hv
      go_wp2_with (first
        | (go_at_call 87; refine (allOlder_any n hn F HS.out (k : Int) HKD.out b cap _ (HI.out.later hb)).mono ?_; rintro e w2 ⟨b2, c2, rfl, hO, hb2⟩; have I2 := Lib.hid hO.ins0; have hB2 := hb.trans (hb2.mono hb.size); clear hO hb2)
        | (go_at_call 86; refine (fearFrom_any n c2 b2 _).mono ?_; rintro e w3 ⟨rfl, rfl⟩)
        | (go_at_call 109; refine (fear1_any n hn (aged F (k : Int)) HFA.out HSA.out c hc b2 c2 w2.heap.size _ ((Blk.new _ _ _).cell (i := 0) rfl) (I2.out.later ((Below.refl _ _).alloc (Nat.le_refl _) _))).mono ?_; rintro e w4 ⟨rfl, hb4⟩; rw [HV.out]; have hBa := hB2.alloc hB2.size (.cells #[.slice (some ⟨b2, 0, none⟩) n c2] 36); have hB3 := hBa.trans (hb4.mono hBa.size); clear hB2 hBa hb4 I2))
      go_roundw
      case rel => exact ⟨k + 1, by omega, by go_num, Lib.hid (HST.out.trans hD.out), hB3⟩
      case measure => simp [intOf]; omega
    · have hen := Lib.hid (ds_end (F := F) (c := c) (n := n) (x := x) (k := k) (by rw [hv]; exact hle) (30 - k))
      clear hv
      go_wp2_with (first
        | (go_at_call 87; refine (allOlder_any n hn F HS.out (k : Int) HKD.out b cap _ (HI.out.later hb)).mono ?_; rintro e w2 ⟨b2, c2, rfl, hO, hb2⟩; have I2 := Lib.hid hO.ins0; have hB2 := hb.trans (hb2.mono hb.size); clear hO hb2)
        | (go_at_call 86; refine (fearFrom_any n c2 b2 _).mono ?_; rintro e w3 ⟨rfl, rfl⟩)
        | (go_at_call 109; refine (fear1_any n hn (aged F (k : Int)) HFA.out HSA.out c hc b2 c2 w2.heap.size _ ((Blk.new _ _ _).cell (i := 0) rfl) (I2.out.later ((Below.refl _ _).alloc (Nat.le_refl _) _))).mono ?_; rintro e w4 ⟨rfl, hb4⟩; rw [HV.out]; have hBa := hB2.alloc hB2.size (.cells #[.slice (some ⟨b2, 0, none⟩) n c2] 36); have hB3 := hBa.trans (hb4.mono hBa.size); clear hB2 hBa hb4 I2))
      go_ret
      exact ⟨by rw [← hD.out, hen.out]; rfl, hB3⟩
/-- What DaysSafe answers. -/
def daysVal (f : Fd) (n : Nat) (F : Nat → Nat → Int) (c x : Int) : Int := if askCode f n F (isCell f c && inB x 1 1000) = 0 then (dsAll F c n x : Nat) else 0
set_option maxRecDepth 100000 in
set_option maxHeartbeats 4000000 in
theorem checkSafety_one (f : Fd) (hf : f.Wf) (n : Nat) (hn : n ≤ 2 ^ 40) (F : Nat → Nat → Int) (hF : WfS ksScarecrow n F) (c : Int) (hcb : -9223372036854775808 ≤ c ∧ c ≤ 9223372036854775807) (x : Int) (hxb : -9223372036854775808 ≤ x ∧ x ≤ 9223372036854775807) (b cap : Nat) (hcap : n ≤ cap) (q : Nat) (A : Nat → Addr) (w : World) (I : InS w b 0 n ksScarecrow F) (J : InO w (some ⟨q, 0, none⟩) 1 (fun _ => c)) (S0 : Sents w A) :
    Calls Tryd.prog 44 #[.agg (fcells f), .slice (some ⟨b, 0, none⟩) n cap, .int .i64 x, .slice (some ⟨q, 0, none⟩) 1 1] w fun e w' => e = .returned (askErr A (askCode f n F (isCell f c && inB x 1 1000))) ∧ Below w.heap.size w w' := by
  have HI := Lib.hid I
  have HJ := Lib.hid J
  have S : Hid (Sents w A) := Lib.hid S0
  clear I J S0
  have hif := isIfaceErr
  have early : ∀ k : Nat, askErr A (askCode f n F (isCell f c)) = errVal (A k) → askErr A (askCode f n F (isCell f c && inB x 1 1000)) = errVal (A k) → Calls Tryd.prog 44 #[.agg (fcells f), .slice (some ⟨b, 0, none⟩) n cap, .int .i64 x, .slice (some ⟨q, 0, none⟩) 1 1] w fun e w' => e = .returned (askErr A (askCode f n F (isCell f c && inB x 1 1000))) ∧ Below w.heap.size w w' := by
    intro k hk0 hr
    have hk := Lib.hid hk0
    rw [hr]
    clear hk0 hr
    go_enter Tryd.func44, Tryd.ntmps44
    go_upto_region 1 with (fail)
    obtain ⟨W, hW, M⟩ := open1 w (fcells f) 34
    rw [hW]; clear hW
    go_wp2_with (first
      | (refine wpList_load_part rfl 34 _ rfl w.heap.size 0 rfl (fcells f) _ (M.at 0 rfl).whole Tryd.underlying34 rfl (by rw [fcells_size]; exact sizeFd) ?_)
      | (go_at_call 77; refine (checkScares_any f hf n hn F hF b cap hcap 1 (by omega) (fun _ => c) (fun _ _ => hcb) (some ⟨q, 0, none⟩) 1 A _ (HI.out.later M.below) (HJ.out.later M.below) (S.out.later M.below)).mono ?_; rintro e W2 ⟨rfl, hb⟩; rw [ask_one, hk.out]; have M2 := M.call hb; have hv2 := (S.out.later M2.below).v2; clear M hb))
    go_ret
    exact ⟨rfl, M2.below⟩
  cases hs : okScares f n F with
  | false => exact early 1 (by rw [ask_no hs]; rfl) (by rw [ask_no hs]; rfl)
  | true =>
  cases hcl : isCell f c with
  | false =>
    have e1 : askCode f n F false = 2 := ask_bad hs rfl
    rw [hcl] at early
    exact early 2 (by rw [e1]; rfl) (by rw [Bool.false_and, e1]; rfl)
  | true =>
  have hk : Hid (askErr A (askCode f n F (isCell f c)) = .nilIface) := Lib.hid (by rw [hcl, ask_ok (fine := true) hs rfl]; rfl)
  cases hp : inB x 1 1000 with
  | false =>
    have HP := Lib.hid hp
    rw [show (true && false) = false from rfl, ask_bad (fine := false) hs rfl, show askErr A 2 = errVal (A 2) from rfl]
    clear early hcl hp hs
    go_enter Tryd.func44, Tryd.ntmps44
    go_upto_region 1 with (fail)
    obtain ⟨W, hW, M⟩ := open1 w (fcells f) 34
    rw [hW]; clear hW
    go_wp2_with (first
      | (refine wpList_load_part rfl 34 _ rfl w.heap.size 0 rfl (fcells f) _ (M.at 0 rfl).whole Tryd.underlying34 rfl (by rw [fcells_size]; exact sizeFd) ?_)
      | (go_at_call 77; refine (checkScares_any f hf n hn F hF b cap hcap 1 (by omega) (fun _ => c) (fun _ _ => hcb) (some ⟨q, 0, none⟩) 1 A _ (HI.out.later M.below) (HJ.out.later M.below) (S.out.later M.below)).mono ?_; rintro e W2 ⟨rfl, hb⟩; rw [ask_one, hk.out]; have M2 := M.call hb; have hv2 := (S.out.later M2.below).v2; clear M hb)
      | (go_at_call 78; refine (isPower_ok x _).mono ?_; rintro e w3 ⟨rfl, rfl⟩; rw [HP.out]))
    go_ret
    exact ⟨rfl, M2.below⟩
  | true =>
    have HP := Lib.hid hp
    rw [show (true && true) = true from rfl, ask_ok (fine := true) hs rfl, show askErr A 0 = .nilIface from rfl]
    clear early hcl hp hs
    go_enter Tryd.func44, Tryd.ntmps44
    go_upto_region 1 with (fail)
    obtain ⟨W, hW, M⟩ := open1 w (fcells f) 34
    rw [hW]; clear hW
    go_wp2_with (first
      | (refine wpList_load_part rfl 34 _ rfl w.heap.size 0 rfl (fcells f) _ (M.at 0 rfl).whole Tryd.underlying34 rfl (by rw [fcells_size]; exact sizeFd) ?_)
      | (go_at_call 77; refine (checkScares_any f hf n hn F hF b cap hcap 1 (by omega) (fun _ => c) (fun _ _ => hcb) (some ⟨q, 0, none⟩) 1 A _ (HI.out.later M.below) (HJ.out.later M.below) (S.out.later M.below)).mono ?_; rintro e W2 ⟨rfl, hb⟩; rw [ask_one, hk.out]; have M2 := M.call hb; have hv2 := (S.out.later M2.below).v2; clear M hb)
      | (go_at_call 78; refine (isPower_ok x _).mono ?_; rintro e w3 ⟨rfl, rfl⟩; rw [HP.out]))
    go_ret
    exact ⟨rfl, M2.below⟩
end Go.Proofs.YtmdfmbkchiafhaaDoor
