/-
  Entries of diaries: the model's l07Apply, ApplyEntry.
-/
import Derived.Test.YtgadjnddllaejaaDoorApply
import Derived.Deep.QuietTactic
import Derived.BigRegion
namespace Go.Proofs.YtgadjnddllaejaaDoor
open Go Go.RowKit

set_option maxRecDepth 100000 in
set_option maxHeartbeats 8000000 in
theorem l07Apply_any (f : Fd) (hf : f.Wf) (hok : okF f = true) (a : Nat → Int) (ha : WfEn a) (fb : Nat) (w : World) (B : Blk w fb (fcells f) 30) :
    Calls Tryd.prog 27 #[.pointer (some ⟨fb, 0, none⟩), vEntry a] w fun e w' => e = .returned (.int .i64 (apCode f a)) ∧ w.grownBy w' (some fb) ∧ Blk w' fb (fcells (apField f a)) 30 := by
  have hfb := B.lt
  have HB := Lib.hid B
  have HA := Lib.hid ha
  obtain ⟨⟨x1, x2⟩, ⟨y1, y2⟩, ⟨u1, u2⟩⟩ := ha
  clear B
  cases he : entOk a with
  | false =>
    have hc : apCode f a = 2 := by unfold apCode; rw [he]; rfl
    have hF : apField f a = f := by unfold apField; rw [hc]; rfl
    rw [hc, hF]
    clear hc hF
    go_enter Tryd.func27, Tryd.ntmps27
    go_upto_region 1 with (fail)
    obtain ⟨W, hW, M⟩ := open1 w (cEnt a) 50
    rw [hW]; clear hW
    have c0 : W.cell? ⟨w.heap.size, 0, none⟩ = some (.int .i8 (a 0)) := (M.at 0 rfl).cell (i := 0) rfl
    have c1 : W.cell? ⟨w.heap.size, 1, none⟩ = some (.int .i16 (a 1)) := (M.at 0 rfl).cell (i := 1) rfl
    have c2 : W.cell? ⟨w.heap.size, 2, none⟩ = some (.int .i16 (a 2)) := (M.at 0 rfl).cell (i := 2) rfl
    go_wp2_with (go_at_call 40; refine (l07Entry_any a HA.out _).mono ?_; rintro e w2 ⟨rfl, hb⟩; rw [he]; have M2 := M.call hb)
    go_ret
    exact ⟨rfl, ap_below M2.below _, HB.out.later M2.below⟩
  | true =>
  obtain ⟨⟨e1, e2⟩, ⟨e3, e4⟩, ⟨e5, e6⟩⟩ := entOk_iff.1 he
  obtain ⟨n, hn⟩ : ∃ n : Nat, a 1 = n := ⟨(a 1).toNat, by omega⟩
  have hn100 : n < 100 := by omega
  have HN := Lib.hid hn
  obtain ⟨am, ham⟩ : ∃ x, a 2 = x := ⟨_, rfl⟩
  obtain ⟨wh, hwh⟩ : ∃ x, a 0 = x := ⟨_, rfl⟩
  have HAM := Lib.hid ham
  have HWH := Lib.hid hwh
  clear hn ham hwh
  cases hcell : isCell f (n : Int) with
  | false =>
    have hc : apCode f a = 2 := by unfold apCode; rw [he, HN.out, hcell]; rfl
    have hF : apField f a = f := by unfold apField; rw [hc]; rfl
    rw [hc, hF]
    clear hc hF
    go_enter Tryd.func27, Tryd.ntmps27
    go_upto_region 1 with (fail)
    obtain ⟨W, hW, M⟩ := open1 w (cEnt a) 50
    rw [hW]; clear hW
    have r1 : ∀ W2, Mem w W2 [⟨w.heap.size, cEnt a, 50⟩] → W2.cell? ⟨w.heap.size, 1, none⟩ = some (.int .i16 n) := fun W2 M2 => by have h := (M2.at 0 rfl).cell (i := 1) (v := .int .i16 (a 1)) rfl; rw [HN.out] at h; exact h
    have R1 := Lib.hid r1
    clear r1
    go_wp2_with (first
      | (refine wpList_load_part rfl 50 _ rfl w.heap.size 0 rfl (cEnt a) _ (M.at 0 rfl).whole Tryd.underlying50 rfl (by kernel_rfl) ?_)
      | (go_at_call 40; refine (l07Entry_any a HA.out _).mono ?_; rintro e w2 ⟨rfl, hb⟩; rw [he]; have M2 := M.call hb; have d1 := R1.out _ M2)
      | (go_at_call 39; refine (l01Is_any f n fb _ hf.W hf.H (HB.out.later M2.below)).mono ?_; rintro e w' ⟨rfl, rfl⟩; rw [hcell]))
    go_ret
    exact ⟨rfl, ap_below M2.below _, HB.out.later M2.below⟩
  | true =>
  have hS := ok_seeds hok hn100
  have hK := ok_kinds hok hn100
  obtain ⟨s, hs⟩ : ∃ s, f.S n = s := ⟨_, rfl⟩
  obtain ⟨kd, hkd⟩ : ∃ x, f.K n = x := ⟨_, rfl⟩
  rw [hs] at hS
  rw [hkd] at hK
  have HS := Lib.hid hs
  have HK := Lib.hid hkd
  obtain ⟨s1, s2⟩ := hS
  obtain ⟨k1, k2⟩ := hK
  have hcode : apCode f a = if kd ≠ 0 then 4 else if wh = 0 then (if inB (s + am) 0 1000 then 0 else 3) else if s < am then 8 else 0 := by
    unfold apCode; rw [he, HN.out, hcell, Int.toNat_natCast, hs, hkd, HWH.out, HAM.out]; rfl
  have hseeds : apSeeds f a = if wh = 0 then s + am else s - am := by unfold apSeeds; rw [HN.out, Int.toNat_natCast, hs, HWH.out, HAM.out]
  have HCODE := Lib.hid hcode
  have HSEEDS := Lib.hid hseeds
  have HFLD : Hid (apField f a = if apCode f a = 0 then f.setS n (apSeeds f a) else f) := Lib.hid (by unfold apField; rw [HN.out, Int.toNat_natCast])
  have HC := Lib.hid hcell
  have HE := Lib.hid he
  rw [HAM.out] at e5 e6 u1 u2
  rw [HWH.out] at e1 e2 x1 x2
  clear hs hkd hcode hseeds hcell he e3 e4 y1 y2
  -- the way to region 3
  have key : ∀ (Q : Exit → Act → World → Prop), True := fun _ => trivial
  clear key
  go_enter Tryd.func27, Tryd.ntmps27
  go_upto_region 1 with (fail)
  obtain ⟨W, hW, M⟩ := open1 w (cEnt a) 50
  rw [hW]; clear hW
  have R : Hid (∀ W2, Mem w W2 [⟨w.heap.size, cEnt a, 50⟩] → W2.cell? ⟨w.heap.size, 0, none⟩ = some (.int .i8 wh) ∧ W2.cell? ⟨w.heap.size, 1, none⟩ = some (.int .i16 n) ∧ W2.cell? ⟨w.heap.size, 2, none⟩ = some (.int .i16 am)) := Lib.hid (fun W2 M2 => by
    have h0 := (M2.at 0 rfl).cell (i := 0) (v := .int .i8 (a 0)) rfl
    have h1 := (M2.at 0 rfl).cell (i := 1) (v := .int .i16 (a 1)) rfl
    have h2 := (M2.at 0 rfl).cell (i := 2) (v := .int .i16 (a 2)) rfl
    rw [HN.out] at h1
    rw [HWH.out] at h0
    rw [HAM.out] at h2
    exact ⟨h0, h1, h2⟩)
  go_upto_region 3 with (first
    | (refine wpList_load_part rfl 50 _ rfl w.heap.size 0 rfl (cEnt a) _ (M.at 0 rfl).whole Tryd.underlying50 rfl (by kernel_rfl) ?_)
    | (go_at_call 40; refine (l07Entry_any a HA.out _).mono ?_; rintro e W2 ⟨rfl, hb⟩; rw [HE.out]; have M2 := M.call hb; obtain ⟨d0, d1, d2⟩ := R.out _ M2)
    | (go_at_call 39; refine (l01Is_any f n fb _ hf.W hf.H (HB.out.later M2.below)).mono ?_; rintro e w' ⟨rfl, rfl⟩; rw [HC.out]))
  have B2 := HB.out.later M2.below
  have cS : W2.cell? ⟨fb, 102 + n, none⟩ = some (.int .i16 s) := by have h := B2.cell (fcells_S f n hn100); rw [HS.out] at h; exact h
  have cK : W2.cell? ⟨fb, 2 + n, none⟩ = some (.int .u8 kd) := by have h := B2.cell (fcells_K f n hn100); rw [HK.out] at h; exact h
  have hlt : (n : Int) < 100 := by omega
  go_quiet (fail)
  go_upto_region 5 with (fail)
  go_quiet (fail)
  generalize hWd : World.drewN (World.drewN W2 _) _ = W3
  have B3 : Hid (Blk W3 fb (fcells f) 30) := Lib.hid (by rw [← hWd]; exact B2)
  have G3 : Hid (w.grownBy W3 (some fb)) := Lib.hid (by rw [← hWd]; exact ap_trans (ap_trans (ap_below M2.below _) (ap_drewN _ _ _)) (ap_drewN _ _ _))
  have t0 : W3.cell? ⟨w.heap.size, 0, none⟩ = some (.int .i8 wh) := by rw [← hWd]; exact d0
  have t1 : W3.cell? ⟨w.heap.size, 1, none⟩ = some (.int .i16 n) := by rw [← hWd]; exact d1
  have t2 : W3.cell? ⟨w.heap.size, 2, none⟩ = some (.int .i16 am) := by rw [← hWd]; exact d2
  have hsz : w.heap.size ≤ W3.heap.size := G3.out.size
  clear hWd d0 d1 d2 cS cK B2 M M2
  have cS : W3.cell? ⟨fb, 102 + n, none⟩ = some (.int .i16 s) := by have h := B3.out.cell (fcells_S f n hn100); rw [HS.out] at h; exact h
  have eS := B3.out.free (102 + n)
  have hneb : ¬ w.heap.size = fb := by omega
  by_cases hk0 : kd = 0
  · by_cases hw0 : wh = 0
    · subst hw0
      obtain ⟨q, hq⟩ : ∃ q, inB (s + am) 0 1000 = q := ⟨_, rfl⟩
      have HQ := Lib.hid hq
      cases q with
      | false =>
        have hc : Hid (apCode f a = 3) := Lib.hid (by rw [HCODE.out, if_neg (by simpa using hk0), if_pos rfl, hq]; rfl)
        have hF : Hid (apField f a = f) := Lib.hid (by rw [HFLD.out, hc.out]; rfl)
        clear hq
        subst hk0
        go_wp2_with (go_at_call 38; refine (l01Seeds_any _ _).mono ?_; rintro e w' ⟨rfl, rfl⟩; rw [HQ.out])
        go_ret
        exact ⟨by rw [hc.out]; rfl, G3.out, by rw [hF.out]; exact B3.out⟩
      | true =>
        have hr := inB_iff.1 hq
        have hc : Hid (apCode f a = 0) := Lib.hid (by rw [HCODE.out, if_neg (by simpa using hk0), if_pos rfl, hq]; rfl)
        have hF : Hid (apField f a = f.setS n (s + am)) := Lib.hid (by rw [HFLD.out, hc.out, HSEEDS.out]; rfl)
        clear hq
        subst hk0
        go_upto_region 10 with (go_at_call 38; refine (l01Seeds_any _ _).mono ?_; rintro e w' ⟨rfl, rfl⟩; rw [HQ.out])
        go_region
        all_goals go_wp2_with fail
        all_goals go_ret
        all_goals exact ⟨by rw [hc.out]; rfl, ap_trans (ap_trans G3.out (ap_drewN _ _ _)) (ap_grown _ _ _ _), by rw [hF.out, ← fcells_setS f n _ hn100]; exact (B3.out.drewN _).set _ _⟩
    · have hw' : (wh == 0) = false := by simpa using hw0
      by_cases hlt : s < am
      · have hc : Hid (apCode f a = 8) := Lib.hid (by rw [HCODE.out, if_neg (by simpa using hk0), if_neg hw0, if_pos hlt])
        have hF : Hid (apField f a = f) := Lib.hid (by rw [HFLD.out, hc.out]; rfl)
        subst hk0
        go_wp2_with fail
        go_ret
        exact ⟨by rw [hc.out]; rfl, G3.out, by rw [hF.out]; exact B3.out⟩
      · have hc : Hid (apCode f a = 0) := Lib.hid (by rw [HCODE.out, if_neg (by simpa using hk0), if_neg hw0, if_neg hlt])
        have hF : Hid (apField f a = f.setS n (s - am)) := Lib.hid (by rw [HFLD.out, hc.out, HSEEDS.out, if_neg hw0]; rfl)
        subst hk0
        go_upto_region 4 with (fail)
        go_region
        all_goals go_wp2_with fail
        all_goals go_ret
        all_goals exact ⟨by rw [hc.out]; rfl, ap_trans (ap_trans G3.out (ap_drewN _ _ _)) (ap_grown _ _ _ _), by rw [hF.out, ← fcells_setS f n _ hn100]; exact (B3.out.drewN _).set _ _⟩
  · have hc : Hid (apCode f a = 4) := Lib.hid (by rw [HCODE.out, if_pos hk0])
    have hF : Hid (apField f a = f) := Lib.hid (by rw [HFLD.out, hc.out]; rfl)
    have hk' : (kd != 0) = true := by simpa using hk0
    go_wp2_with fail
    go_ret
    exact ⟨by rw [hc.out]; rfl, G3.out, by rw [hF.out]; exact B3.out⟩
end Go.Proofs.YtgadjnddllaejaaDoor
