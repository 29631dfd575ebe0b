/-
  Whether cells are apart: the model's.
-/
import Derived.Test.YtidddepdjokjcaaDoorApaI
namespace Go.Proofs.YtidddepdjokjcaaDoor
open Go Go.RowKit

/-- Whether a number is a cell of soil. -/
def soilB (f : Fd) (c : Int) : Bool := isCell f c && f.K c.toNat == 0
def okA (f : Fd) (g : Nat → Int) (k : Nat) : Bool := soilB f (g k) && !inL g k (g k)
def djA (CS : Int → Nat → Int) (g : Nat → Int) (k : Nat) : Bool := allTo k (fun j => dj (CS (g j)) (CS (g k)))
def chaB (CS : Int → Nat → Int) (f : Fd) (g : Nat → Int) (m : Nat) : Bool := allTo m (okA f g) && allTo m (djA CS g)
def chaVal (f : Fd) (x y : Int) (m : Nat) (g : Nat → Int) : Bool := if apCode f x y = 0 then chaB (cS f x y) f g m else false
theorem soil_cell {f : Fd} {c : Int} (h : soilB f c = true) : 0 ≤ c ∧ c ≤ 99 := by
  unfold soilB at h
  simp only [Bool.and_eq_true] at h
  obtain ⟨c9, hc9, rfl⟩ := cell_nat h.1
  omega
set_option maxRecDepth 100000 in
theorem l03SoilZ (f : Fd) (hf : f.Wf) (c : Int) (b : Nat) (w : World) (B : Blk w b (fcells f) 33) :
    Calls Tryd.prog 36 #[.pointer (some ⟨b, 0, none⟩), .int .i64 c] w fun e w' => e = .returned (.bool (soilB f c)) ∧ w = w' := by
  cases hc : isCell f c with
  | true =>
    obtain ⟨k, hk, rfl⟩ := cell_nat hc
    unfold soilB
    rw [Int.toNat_natCast]
    exact l03Soil_any f hf k hk b w B
  | false =>
    have HB := Lib.hid B
    unfold soilB
    rw [hc, Bool.false_and]
    clear B
    go_enter Tryd.func36, Tryd.ntmps36
    go_wp2_with (go_at_call 19; refine (l01Is_any f c b _ hf.W hf.H HB.out).mono ?_; rintro e w' ⟨rfl, rfl⟩; rw [hc])
    go_ret
    exact ⟨rfl, rfl⟩
set_option maxRecDepth 100000 in
set_option maxHeartbeats 4000000 in
theorem l00Has_any (n : Nat) (hn : n ≤ 2 ^ 40) (g : Nat → Int) (c : Int) (p : Option Addr) (cp : Nat) (w : World) (J : InJ w p n g) :
    Calls Tryd.prog 37 #[.slice p n cp, .int .i64 c] w fun e w' => e = .returned (.bool (inL g n c)) ∧ w = w' := by
  have HJ := Lib.hid J
  clear J
  go_enter Tryd.func37, Tryd.ntmps37
  go_wp2_with fail
  go_loop [5] (fun i => ∃ k : Nat, k ≤ n ∧ i = .int .i64 k ∧ Hid (∀ j, j < k → g j ≠ c)) (fun i => n - (intOf i).toNat)
  case atStart => exact ⟨0, by omega, rfl, Lib.hid (fun j hj => absurd hj (by omega))⟩
  case round =>
    obtain ⟨k, hk, rfl, hall⟩ := hrel
    by_cases hlt : k < n
    · rcases HJ.out with hz | ⟨lb, lo, rfl, J3⟩
      · omega
      · have c0 := J3 k hlt
        obtain ⟨y, hy⟩ : ∃ y, g k = y := ⟨_, rfl⟩
        rw [hy] at c0
        by_cases hcy : y = c
        · have hyes : Hid (inL g n c = true) := Lib.hid (inL_yes hlt (hy.trans hcy))
          have hd : (y == c) = true := by simp [hcy]
          clear hy hcy
          go_wp2_with fail
          go_ret
          exact ⟨by rw [hyes.out]; rfl, rfl⟩
        · have hno : Hid (g k ≠ c) := Lib.hid (by rw [hy]; exact hcy)
          have hd : (y == c) = false := by simp [hcy]
          clear hy hcy
          go_wp2_with fail
          go_round
          case rel => exact ⟨k + 1, by omega, by go_num, Lib.hid (fun j hj => by
            by_cases e : j = k
            · subst e; exact hno.out
            · exact hall.out j (by omega))⟩
          case measure => simp [intOf]; omega
    · obtain rfl : k = n := by omega
      have hno : Hid (inL g k c = false) := Lib.hid (inL_no hall.out)
      go_wp2_with fail
      go_ret
      exact ⟨by rw [hno.out]; rfl, rfl⟩
set_option maxRecDepth 100000 in
set_option maxHeartbeats 8000000 in
theorem specCheckApart (f : Fd) (hf : f.Wf) (x y : Int) (m : Nat) (hm : m ≤ 2 ^ 40) (g : Nat → Int) (b c : Nat) (hmc : m ≤ c) (w : World) (I : InI w b 0 m g) : Calls Tryd.prog 16 #[.agg (fcells f), .int .i64 x, .int .i64 y, .slice (some ⟨b, 0, none⟩) m c] w fun e w' => e = .returned (.tuple #[.bool (chaVal f x y m g), .int .i64 (apCode f x y)]) ∧ Below w.heap.size w w' := by
  have HI := Lib.hid I
  clear I
  obtain ⟨q, hq⟩ : ∃ q, (inB x 1 1000 && inB y 1 1000) = q := ⟨_, rfl⟩
  have hcode : apCode f x y = gmCode f q := by rw [← hq]; rfl
  have HG := Lib.hid (fun (b : Nat) (w : World) (B : Blk w b (fcells f) 33) => l03Game_any f hf x y b w B)
  rw [hq] at HG
  have bad : ∀ k : Int, k ≠ 0 → gmCode f q = k → Calls Tryd.prog 16 #[.agg (fcells f), .int .i64 x, .int .i64 y, .slice (some ⟨b, 0, none⟩) m c] w fun e w' => e = .returned (.tuple #[.bool (chaVal f x y m g), .int .i64 (apCode f x y)]) ∧ Below w.heap.size w w' := by
    intro k hk0 hk
    have hv : chaVal f x y m g = false := by unfold chaVal; rw [hcode, hk, if_neg hk0]
    rw [hv, hcode, hk]
    have HK := Lib.hid hk
    have hkb : (k != 0) = true := by simpa using hk0
    clear hk hk0 hcode hq hv
    go_enter Tryd.func16, Tryd.ntmps16
    go_upto_region 1 with (fail)
    obtain ⟨W, hW, M⟩ := open1 w (fcells f) 33
    rw [hW]; clear hW
    go_wp2_with (go_at_call 18; refine (HG.out w.heap.size _ (M.at 0 rfl)).mono ?_; rintro e w1 ⟨rfl, rfl⟩; rw [HK.out])
    go_ret2
    exact ⟨rfl, M.below⟩
  rcases gm_cases f q with ⟨h0, hok, hqt⟩ | ⟨h0, _⟩ | ⟨h0, _⟩
  · subst hqt
    have hxy : inB x 1 1000 = true ∧ inB y 1 1000 = true := by simpa using hq
    have hx := Lib.hid (inB_iff.1 hxy.1)
    have hy := Lib.hid (inB_iff.1 hxy.2)
    have HK := Lib.hid h0
    obtain ⟨CS, hCS⟩ : ∃ CS, cS f x y = CS := ⟨_, rfl⟩
    obtain ⟨rv, hrv⟩ : ∃ rv, chaVal f x y m g = rv := ⟨_, rfl⟩
    have HRV : Hid (chaB CS f g m = rv) := Lib.hid (by rw [← hrv, ← hCS]; unfold chaVal; rw [hcode, h0, if_pos rfl])
    rw [hrv, hcode, h0]
    have HAP := Lib.hid (fun (a c : Int) (ha : 0 ≤ a ∧ a ≤ 99) (hc : 0 ≤ c ∧ c ≤ 99) (b : Nat) (w : World) (B : Blk w b (fcells f) 33) => (by
      have h := l03Apart_any f hf a.toNat (by omega) c.toNat (by omega) x y hx.out hy.out b w B
      rw [Int.toNat_of_nonneg ha.1, Int.toNat_of_nonneg hc.1, hCS] at h
      exact h : Calls Tryd.prog 31 #[.pointer (some ⟨b, 0, none⟩), .int .i64 a, .int .i64 c, .int .i64 x, .int .i64 y] w fun e w' => e = .returned (.bool (dj (CS a) (CS c))) ∧ w = w'))
    have HSO := Lib.hid (fun (v : Int) (b : Nat) (w : World) B => l03SoilZ f hf v b w B)
    clear bad hcode h0 hok hq hxy hCS hrv
    go_enter Tryd.func16, Tryd.ntmps16
    go_upto_region 1 with (fail)
    obtain ⟨W, hW, M⟩ := open1 w (fcells f) 33
    rw [hW]; clear hW
    go_wp2_with (go_at_call 18; refine (HG.out w.heap.size _ (M.at 0 rfl)).mono ?_; rintro e w1 ⟨rfl, rfl⟩; rw [HK.out])
    have HBF := Lib.hid (M.at 0 rfl)
    have HBW := Lib.hid M.below
    have HIW := Lib.hid (HI.out.later M.below)
    clear M
    go_loopw [11] (fun i wr => ∃ k : Nat, k ≤ m ∧ i = .int .i64 k ∧ Hid (∀ j, j < k → okA f g j = true) ∧ Hid (Below W.heap.size W wr)) (fun i _ => m - (intOf i).toNat)
    case atStart => exact ⟨0, by omega, rfl, Lib.hid (fun j hj => absurd hj (by omega)), Lib.hid (Below.refl _ _)⟩
    case round =>
      obtain ⟨k, hk, rfl, hall, hb⟩ := hrel
      have HBR := Lib.hid (HBF.out.later hb.out)
      have hbw : Hid (Below w.heap.size w wr) := Lib.hid (HBW.out.trans (hb.out.mono HBW.out.size))
      by_cases hlt : k < m
      · have HIR := Lib.hid (HIW.out.later hb.out)
        have cG := HIR.out k hlt
        rw [Nat.zero_add] at cG
        have hkc : k ≤ c := by omega
        have hc0 : ¬ c = 0 := by omega
        have hoa : okA f g k = (soilB f (g k) && !inL g k (g k)) := rfl
        obtain ⟨v, hv⟩ : ∃ v, g k = v := ⟨_, rfl⟩
        rw [hv] at cG hoa
        obtain ⟨s, hs⟩ : ∃ s, soilB f v = s := ⟨_, rfl⟩
        obtain ⟨h, hh⟩ : ∃ h, inL g k v = h := ⟨_, rfl⟩
        rw [hs, hh] at hoa
        have HS := Lib.hid hs
        have HH := Lib.hid hh
        have HQ1 := Lib.hid (fun (w : World) B => ((HSO.out v w.heap.size w B)))
        cases s with
        | false =>
          obtain rfl : rv = false := by rw [← HRV.out]; unfold chaB; rw [allTo_false hlt (by rw [hoa]; rfl)]; rfl
          clear hv hs hh hoa
          go_upto_region 7 with (fail)
          go_quiet ((go_at_call 36; exact Calls.quiet_of_same ((HSO.out v w.heap.size _ (by first | exact HBR.out | exact HBR.out.drewN _)).mono (fun e w9 h9 => ⟨h9.1.trans (by rw [HS.out]), h9.2.symm⟩))))
          go_wp2_with fail
          go_ret2
          exact ⟨rfl, below_drewN _ hbw.out⟩
        | true =>
          cases h with
          | true =>
            obtain rfl : rv = false := by rw [← HRV.out]; unfold chaB; rw [allTo_false hlt (by rw [hoa]; rfl)]; rfl
            clear hv hs hh hoa
            go_upto_region 7 with (fail)
            go_quiet (first
              | (go_at_call 36; exact Calls.quiet_of_same ((HSO.out v w.heap.size _ (by first | exact HBR.out | exact HBR.out.drewN _)).mono (fun e w9 h9 => ⟨h9.1.trans (by rw [HS.out]), h9.2.symm⟩)))
              | (go_at_call 37; exact Calls.quiet_of_same ((l00Has_any k (by omega) g v (some ⟨b, 0, none⟩) c _ (by first | exact .inr ⟨b, 0, rfl, fun i hi => HIR.out i (by omega)⟩ | exact .inr ⟨b, 0, rfl, fun i hi => (show wr.cell? ⟨b, 0 + i, none⟩ = some (.int .i64 (g i)) from HIR.out i (by omega))⟩)).mono (fun e w9 h9 => ⟨h9.1.trans (by rw [HH.out]), h9.2.symm⟩))))
            go_wp2_with fail
            go_ret2
            exact ⟨rfl, below_drewN _ hbw.out⟩
          | false =>
            have hok1 : Hid (okA f g k = true) := Lib.hid (by rw [hoa]; rfl)
            clear hv hs hh hoa
            go_upto_region 7 with (fail)
            go_quiet (first
              | (go_at_call 36; exact Calls.quiet_of_same ((HSO.out v w.heap.size _ (by first | exact HBR.out | exact HBR.out.drewN _)).mono (fun e w9 h9 => ⟨h9.1.trans (by rw [HS.out]), h9.2.symm⟩)))
              | (go_at_call 37; exact Calls.quiet_of_same ((l00Has_any k (by omega) g v (some ⟨b, 0, none⟩) c _ (by first | exact .inr ⟨b, 0, rfl, fun i hi => HIR.out i (by omega)⟩ | exact .inr ⟨b, 0, rfl, fun i hi => (show wr.cell? ⟨b, 0 + i, none⟩ = some (.int .i64 (g i)) from HIR.out i (by omega))⟩)).mono (fun e w9 h9 => ⟨h9.1.trans (by rw [HH.out]), h9.2.symm⟩))))
            go_wp2_with fail
            go_roundw
            case rel => exact ⟨k + 1, by omega, by go_num, Lib.hid (fun j hj => by
              by_cases e : j = k
              · subst e; exact hok1.out
              · exact hall.out j (by omega)), Lib.hid (below_drewN _ hb.out)⟩
            case measure => simp [intOf]; omega
      · obtain rfl : k = m := by omega
        have HP1 : Hid (allTo k (okA f g) = true) := Lib.hid (allTo_iff.2 hall.out)
        have HIN : Hid (∀ i, i < k → 0 ≤ g i ∧ g i ≤ 99) := Lib.hid (fun i hi => by
          have h := hall.out i hi
          unfold okA at h
          simp only [Bool.and_eq_true] at h
          exact soil_cell h.1)
        clear hlt hk
        go_wp2_with fail
        have HB0 := Lib.hid hb.out
        clear hb hbw HBR
        go_loopw [12] (fun i wr => ∃ r : Nat, r ≤ k ∧ i = .int .i64 r ∧ Hid (∀ j, j < r → djA CS g j = true) ∧ Hid (Below W.heap.size W wr)) (fun i _ => k - (intOf i).toNat)
        case atStart => exact ⟨0, by omega, rfl, Lib.hid (fun j hj => absurd hj (by omega)), HB0⟩
        case round =>
          clear HB0
          obtain ⟨r, hr, rfl, hall2, hb⟩ := hrel
          by_cases hlt : r < k
          · obtain ⟨v, hv⟩ : ∃ v, g r = v := ⟨_, rfl⟩
            have HV := Lib.hid hv
            have hvin : 0 ≤ v ∧ v ≤ 99 := by rw [← hv]; exact HIN.out r hlt
            clear hv
            go_wp2_with fail
            have HB0 := Lib.hid hb.out
            clear hb
            go_loopw [13] (fun i wr => ∃ l : Nat, l ≤ r ∧ i = .int .i64 l ∧ Hid (∀ j, j < l → dj (CS (g j)) (CS v) = true) ∧ Hid (Below W.heap.size W wr)) (fun i _ => r - (intOf i).toNat)
            case atStart => exact ⟨0, by omega, rfl, Lib.hid (fun j hj => absurd hj (by omega)), HB0⟩
            case round =>
              clear HB0
              obtain ⟨l, hl, rfl, hall3, hb⟩ := hrel
              have HBR := Lib.hid (HBF.out.later hb.out)
              have hbw : Hid (Below w.heap.size w wr) := Lib.hid (HBW.out.trans (hb.out.mono HBW.out.size))
              by_cases hlt2 : l < r
              · have HIR := Lib.hid (HIW.out.later hb.out)
                have cV := HIR.out r hlt
                rw [HV.out, Nat.zero_add] at cV
                have cU := HIR.out l (by omega)
                rw [Nat.zero_add] at cU
                have huin := HIN.out l (by omega)
                obtain ⟨u, hu⟩ : ∃ u, g l = u := ⟨_, rfl⟩
                have HU := Lib.hid hu
                rw [hu] at cU huin
                obtain ⟨d, hd⟩ : ∃ d, dj (CS u) (CS v) = d := ⟨_, rfl⟩
                have HD := Lib.hid hd
                clear hu hd
                cases d with
                | false =>
                  obtain rfl : rv = false := by
                    have hdj : djA CS g r = false := allTo_false hlt2 (by rw [HU.out, HV.out]; exact HD.out)
                    rw [← HRV.out]; unfold chaB; rw [allTo_false hlt hdj, Bool.and_false]
                  go_upto_region 15 with (fail)
                  go_quiet ((go_at_call 31; exact Calls.quiet_of_same ((HAP.out u v huin hvin w.heap.size _ (by first | exact HBR.out | exact HBR.out.drewN _)).mono (fun e w9 h9 => ⟨h9.1.trans (by rw [HD.out]), h9.2.symm⟩))))
                  go_wp2_with fail
                  go_ret2
                  exact ⟨rfl, below_drewN _ hbw.out⟩
                | true =>
                  go_upto_region 15 with (fail)
                  go_quiet ((go_at_call 31; exact Calls.quiet_of_same ((HAP.out u v huin hvin w.heap.size _ (by first | exact HBR.out | exact HBR.out.drewN _)).mono (fun e w9 h9 => ⟨h9.1.trans (by rw [HD.out]), h9.2.symm⟩))))
                  go_wp2_with fail
                  go_roundw
                  case rel => exact ⟨l + 1, by omega, by go_num, Lib.hid (fun j hj => by
                    by_cases e : j = l
                    · subst e; rw [HU.out]; exact HD.out
                    · exact hall3.out j (by omega)), Lib.hid (below_drewN _ hb.out)⟩
                  case measure => simp [intOf]; omega
              · obtain rfl : l = r := by omega
                have hdj : Hid (djA CS g l = true) := Lib.hid (allTo_iff.2 (fun j hj => by rw [HV.out]; exact hall3.out j hj))
                clear hlt2 hl
                go_wp2_with fail
                go_roundw
                case rel => exact ⟨l + 1, by omega, by go_num, Lib.hid (fun j hj => by
                  by_cases e : j = l
                  · subst e; exact hdj.out
                  · exact hall2.out j (by omega)), hb⟩
                case measure => simp [intOf]; omega
          · obtain rfl : r = k := by omega
            obtain rfl : rv = true := by
              rw [← HRV.out]; unfold chaB; rw [HP1.out, allTo_iff.2 hall2.out]; rfl
            have hbw : Hid (Below w.heap.size w wr) := Lib.hid (HBW.out.trans (hb.out.mono HBW.out.size))
            clear hlt hr
            go_wp2_with fail
            go_ret2
            exact ⟨rfl, hbw.out⟩
  · exact bad 1 (by decide) h0
  · exact bad 2 (by decide) h0
end Go.Proofs.YtidddepdjokjcaaDoor
