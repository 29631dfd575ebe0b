/-
  Stores: the program's.
-/
import Derived.Test.YtifcaedbclgahaaDoorSto
import Derived.Test.YtifcaedbclgahaaDoorErr
import Derived.Test.YtifcaedbclgahaaDoorIn
import Derived.Deep.DeepCutAuto
import Derived.BigRegion
import Derived.Test.YtifcaedbclgahaaDoorRow
namespace Go.Proofs.YtifcaedbclgahaaDoor
open Go Go.RowKit

theorem isStore_any (n : Int) (w : World) : Calls Tryd.prog 21 #[.int .i64 n] w fun e w' => e = .returned (.bool (inB n 0 1000000)) ∧ w = w' := by
  by_cases h1 : 0 ≤ n
  · have e : inB n 0 1000000 = decide (n ≤ 1000000) := by simp [inB, h1]
    rw [e]
    go_enter Tryd.func21, Tryd.ntmps21
    go_wp2_with fail
    go_ret
    exact ⟨rfl, rfl⟩
  · rw [inB_false (.inl (by omega))]
    go_enter Tryd.func21, Tryd.ntmps21
    go_wp2_with fail
    go_ret
    exact ⟨rfl, rfl⟩
theorem isWait_any (n : Int) (w : World) : Calls Tryd.prog 16 #[.int .i64 n] w fun e w' => e = .returned (.bool (inB n 0 20)) ∧ w = w' := by
  by_cases h1 : 0 ≤ n
  · have e : inB n 0 20 = decide (n ≤ 20) := by simp [inB, h1]
    rw [e]
    go_enter Tryd.func16, Tryd.ntmps16
    go_wp2_with fail
    go_ret
    exact ⟨rfl, rfl⟩
  · rw [inB_false (.inl (by omega))]
    go_enter Tryd.func16, Tryd.ntmps16
    go_wp2_with fail
    go_ret
    exact ⟨rfl, rfl⟩
def stoErr (A : Nat → Addr) (b : Bool) : Value := if b then .nilIface else errVal (A 2)
theorem checkStore_any (a m c : Int) (A : Nat → Addr) (w : World) (S0 : Sents w A) : Calls Tryd.prog 14 #[.int .i64 a, .int .i64 m, .int .i64 c] w fun e w' => e = .returned (stoErr A (stoOk a m c 0)) ∧ w = w' := by
  have v2 := S0.v2
  have hd : inB 0 0 20 = true := rfl
  obtain ⟨q1, h1⟩ : ∃ x, inB a 0 1000000 = x := ⟨_, rfl⟩
  have H1 := Lib.hid h1
  have hs : Hid (stoOk a m c 0 = (q1 && inB m 0 100 && inB c 0 10)) := Lib.hid (by unfold stoOk; rw [h1, hd, Bool.and_true])
  clear h1 hd
  have arm : stoOk a m c 0 = true ∨ stoOk a m c 0 = false := by cases stoOk a m c 0 <;> simp
  cases q1 with
  | false =>
    rw [hs.out]
    go_enter Tryd.func14, Tryd.ntmps14
    go_wp2_with (go_at_call 21; refine (isStore_any _ _).mono ?_; rintro e w' ⟨rfl, rfl⟩; rw [H1.out])
    go_ret
    exact ⟨rfl, rfl⟩
  | true =>
    by_cases m1 : m < 0
    · rw [show stoOk a m c 0 = false by rw [hs.out, inB_false (.inl m1)]; rfl]
      clear arm
      go_enter Tryd.func14, Tryd.ntmps14
      go_wp2_with (go_at_call 21; refine (isStore_any _ _).mono ?_; rintro e w' ⟨rfl, rfl⟩; rw [H1.out])
      go_ret
      exact ⟨rfl, rfl⟩
    by_cases m2 : 100 < m
    · rw [show stoOk a m c 0 = false by rw [hs.out, inB_false (.inr m2)]; rfl]
      clear arm
      go_enter Tryd.func14, Tryd.ntmps14
      go_wp2_with (go_at_call 21; refine (isStore_any _ _).mono ?_; rintro e w' ⟨rfl, rfl⟩; rw [H1.out])
      go_ret
      exact ⟨rfl, rfl⟩
    have hm : inB m 0 100 = true := inB_iff.2 (by omega)
    by_cases c1 : c < 0
    · rw [show stoOk a m c 0 = false by rw [hs.out, hm, inB_false (.inl c1)]; rfl]
      clear arm hm
      go_enter Tryd.func14, Tryd.ntmps14
      go_wp2_with (go_at_call 21; refine (isStore_any _ _).mono ?_; rintro e w' ⟨rfl, rfl⟩; rw [H1.out])
      go_ret
      exact ⟨rfl, rfl⟩
    by_cases c2 : 10 < c
    · rw [show stoOk a m c 0 = false by rw [hs.out, hm, inB_false (.inr c2)]; rfl]
      clear arm hm
      go_enter Tryd.func14, Tryd.ntmps14
      go_wp2_with (go_at_call 21; refine (isStore_any _ _).mono ?_; rintro e w' ⟨rfl, rfl⟩; rw [H1.out])
      go_ret
      exact ⟨rfl, rfl⟩
    have hc : inB c 0 10 = true := inB_iff.2 (by omega)
    rw [show stoOk a m c 0 = true by rw [hs.out, hm, hc]; rfl]
    clear arm hm hc
    go_enter Tryd.func14, Tryd.ntmps14
    go_wp2_with (go_at_call 21; refine (isStore_any _ _).mono ?_; rintro e w' ⟨rfl, rfl⟩; rw [H1.out])
    go_ret
    exact ⟨rfl, rfl⟩
abbrev vStock (a m : Int) : Array Value := #[.int .i64 a, .int .i64 m]
set_option maxHeartbeats 1000000 in
theorem storeDay_any (a m c : Int) (ha : 0 ≤ a ∧ a ≤ 1000000) (hm : 0 ≤ m ∧ m ≤ 100) (hc : 0 ≤ c ∧ c ≤ 10) (cb : Nat) (w : World) (hcell : w.cell? ⟨cb, 0, none⟩ = some (.int .i64 c)) :
    Calls Tryd.prog 26 #[.agg (vStock a m), .pointer (some ⟨cb, 0, none⟩)] w fun e w' => e = .returned (.agg (vStock (a - eatD a m) (max 0 (m - c)))) ∧ Below w.heap.size w w' := by
  obtain ⟨h1, h2, h3, h4⟩ := eatD_in ha hm
  obtain ⟨x, hx⟩ : ∃ x, eatD a m = x := ⟨_, rfl⟩
  rw [hx] at h3 h4 ⊢
  have HX := Lib.hid hx
  clear hx
  obtain ⟨hc1, hc2⟩ := hc
  obtain ⟨hm1, hm2⟩ := hm
  have e1 : wrap64 (a * m) = a * m := wrap64_id (by omega) (by omega)
  have hmn : ∀ (ts : Array TypeId) (t : TypeId) (W : World), (Builtin.min_ ts t #[.int .i64 (a * m / 1000), .int .i64 (50 * m)]).run Tryd.prog W = .ok (.int .i64 x) W := fun ts t W => by
    have e : (if 50 * m < a * m / 1000 then 50 * m else a * m / 1000) = x := by
      rw [← HX.out, eatD]; omega
    simp [Builtin.min_, Builtin.min2, e]
  have hmx : ∀ (ts : Array TypeId) (t : TypeId) (W : World), (Builtin.max_ ts t #[.int .i64 0, .int .i64 (m - c)]).run Tryd.prog W = .ok (.int .i64 (max 0 (m - c))) W := fun ts t W => by
    have e : (if c < m then m - c else 0) = max 0 (m - c) := by omega
    simp [Builtin.max_, Builtin.max2, e]
  go_enter Tryd.func26, Tryd.ntmps26
  go_upto_region 1 with (fail)
  obtain ⟨W, hW, M⟩ := open2 w (vStock a m) 40 #[.int .i64 0, .int .i64 0] 40
  rw [hW]; clear hW
  have c0 : W.cell? ⟨w.heap.size, 0, none⟩ = some (.int .i64 a) := (M.at 0 rfl).cell (i := 0) rfl
  have c1 : W.cell? ⟨w.heap.size, 1, none⟩ = some (.int .i64 m) := (M.at 0 rfl).cell (i := 1) rfl
  have c2 := cell_later hcell M.below
  have d0 : W.cell? ⟨w.heap.size + 1, 0, none⟩ = some (.int .i64 0) := (M.at 1 rfl).cell (i := 0) rfl
  have d1 : W.cell? ⟨w.heap.size + 1, 1, none⟩ = some (.int .i64 0) := (M.at 1 rfl).cell (i := 1) rfl
  have f0 := (M.at 1 rfl).free 0
  have f1 := (M.at 1 rfl).free 1
  go_wp2_with (fail)
  have M3 := M.cells 1 0 [.int .i64 (a - x), .int .i64 (max 0 (m - c))] rfl (vStock (a - x) (max 0 (m - c))) (((M.at 1 rfl).set 0 _).set 1 _)
  exact bodyPost_ret (results_cell_row rfl _ _ (w.heap.size + 1) 40 _ _ _ rfl (M3.at 1 rfl) Tryd.underlying40 rfl (by kernel_rfl)) rfl ⟨rfl, M3.below⟩
abbrev dayFn (cb : Nat) : Value := .func (.func 26) #[] #[.pointer (some ⟨cb, 0, none⟩)]
theorem storeWith_any (c : Int) (w : World) : Calls Tryd.prog 17 #[.int .i64 c] w fun e w' => e = .returned (dayFn w.heap.size) ∧ w' = w.alloc (.cells #[.int .i64 c] 2) := by
  go_enter Tryd.func17, Tryd.ntmps17
  go_wp2_with fail
  go_ret
  exact ⟨rfl, rfl⟩
theorem stoOk_zero {a m c d : Int} (h : stoOk a m c d = true) : stoOk a m c 0 = true := by
  have := stoOk_iff.1 h
  exact stoOk_iff.2 (by omega)
set_option maxHeartbeats 2000000 in
theorem implStoreAfter (a m c d : Int) (A : Nat → Addr) (w : World) (S0 : Sents w A) : Calls Tryd.prog 8 #[.int .i64 a, .int .i64 m, .int .i64 c, .int .i64 d] w fun e w' => e = .returned (.tuple #[.int .i64 (stoVal a m c d), .int .i64 (stoMice a m c d), .int .i64 (stoCode (stoOk a m c d))]) ∧ Below w.heap.size w w' := by
  have S : Hid (Sents w A) := Lib.hid S0
  have v2 := S0.v2
  clear S0
  have hif := isIfaceErr
  unfold stoVal stoMice
  cases h0 : stoOk a m c 0 with
  | false =>
    have hd : stoOk a m c d = false := by
      cases e : stoOk a m c d with
      | false => rfl
      | true => rw [stoOk_zero e] at h0; cases h0
    rw [hd]
    clear hd v2
    go_enter Tryd.func8, Tryd.ntmps8
    go_wp2_with (first
      | (go_at_call 14; refine (checkStore_any a m c A _ S.out).mono ?_; rintro e w' ⟨rfl, rfl⟩; rw [h0, show stoErr A false = errVal (A 2) from rfl])
      | (go_at_call 15; refine (codeOf_err A 2 (by omega) (by omega) _ S.out).mono ?_; rintro e w' ⟨rfl, rfl⟩))
    go_ret3
    exact ⟨rfl, Below.refl _ _⟩
  | true =>
    obtain ⟨q, hq⟩ : ∃ x, inB d 0 20 = x := ⟨_, rfl⟩
    have HQ := Lib.hid hq
    have hd : stoOk a m c d = q := by
      rw [← hq]
      have := stoOk_iff.1 h0
      unfold stoOk
      rw [inB_iff.2 this.1, inB_iff.2 this.2.1, inB_iff.2 this.2.2.1]; rfl
    rw [hd]
    clear hq
    cases q with
    | false =>
      go_enter Tryd.func8, Tryd.ntmps8
      go_wp2_with (first
        | (go_at_call 14; refine (checkStore_any a m c A _ S.out).mono ?_; rintro e w' ⟨rfl, rfl⟩; rw [h0, show stoErr A true = .nilIface from rfl])
        | (go_at_call 16; refine (isWait_any _ _).mono ?_; rintro e w' ⟨rfl, rfl⟩; rw [HQ.out])
        | (go_at_call 15; refine (codeOf_err A 2 (by omega) (by omega) _ S.out).mono ?_; rintro e w' ⟨rfl, rfl⟩))
      go_ret3
      exact ⟨rfl, Below.refl _ _⟩
    | true =>
      clear v2
      obtain ⟨ha, hm, hc, hd1, hd2⟩ := stoOk_iff.1 hd
      have HA := Lib.hid ha
      have HM := Lib.hid hm
      have HC := Lib.hid hc
      clear ha hm hc hd
      obtain ⟨n, rfl⟩ : ∃ n : Nat, d = n := ⟨d.toNat, by omega⟩
      go_enter Tryd.func8, Tryd.ntmps8
      go_wp2_with (first
        | (go_at_call 14; refine (checkStore_any a m c A _ S.out).mono ?_; rintro e w' ⟨rfl, rfl⟩; rw [h0, show stoErr A true = .nilIface from rfl])
        | (go_at_call 16; refine (isWait_any _ _).mono ?_; rintro e w' ⟨rfl, rfl⟩; rw [HQ.out])
        | (go_at_call 17; refine (storeWith_any c _).mono ?_; rintro e w' ⟨rfl, rfl⟩))
      clear h0
      obtain ⟨W, hW, M⟩ := open2 w #[.int .i64 c] 2 (vStock a m) 40
      rw [show (w.alloc (.cells #[.int .i64 c] 2)).alloc (.cells #[.int .i64 a, .int .i64 m] 40) = W from hW]
      clear hW
      go_loopw [33] (fun i wr => ∃ k : Nat, k ≤ n ∧ i = .int .i64 k ∧ Mem w wr [⟨w.heap.size, #[.int .i64 c], 2⟩, ⟨w.heap.size + 1, vStock (grainAt a m c k) (miceAt m c k), 40⟩]) (fun i _ => n - (intOf i).toNat)
      case atStart => exact ⟨0, by omega, rfl, M⟩
      case round =>
        clear M
        obtain ⟨k, hk, rfl, M⟩ := hrel
        by_cases hlt : k < n
        · obtain ⟨g, hg⟩ : ∃ x, grainAt a m c k = x := ⟨_, rfl⟩
          obtain ⟨u, hu⟩ : ∃ x, miceAt m c k = x := ⟨_, rfl⟩
          obtain ⟨hc1, hc2⟩ := HC.out
          have hg1 := Lib.hid (grainAt_in HA.out HM.out hc1 k)
          have hu1 := Lib.hid (miceAt_in HM.out hc1 k)
          rw [hg] at hg1 M
          rw [hu] at hu1 M
          have HG := Lib.hid (show vStock (grainAt a m c (k + 1)) (miceAt m c (k + 1)) = vStock (g - eatD g u) (max 0 (u - c)) by rw [grainAt, miceAt, hg, hu])
          clear hg hu
          have hcc : wr.cell? ⟨w.heap.size, 0, none⟩ = some (.int .i64 c) := (M.at 0 rfl).cell (i := 0) rfl
          obtain ⟨G1, e1⟩ : ∃ x, g - eatD g u = x := ⟨_, rfl⟩
          obtain ⟨U1, e2⟩ : ∃ x, max 0 (u - c) = x := ⟨_, rfl⟩
          have E1 := Lib.hid e1
          have E2 := Lib.hid e2
          rw [e1, e2] at HG
          clear e1 e2
          have d0 : Hid (∀ W2, Mem w W2 [⟨w.heap.size, #[.int .i64 c], 2⟩, ⟨w.heap.size + 1, vStock g u, 40⟩] → W2.cell? ⟨w.heap.size + 1, 0, none⟩ = some (.int .i64 g) ∧ W2.cell? ⟨w.heap.size + 1, 1, none⟩ = some (.int .i64 u) ∧ W2.frozen? ⟨w.heap.size + 1, 0, none⟩ = false ∧ W2.frozen? ⟨w.heap.size + 1, 1, none⟩ = false) := Lib.hid (fun W2 M2 => ⟨(M2.at 1 rfl).cell (i := 0) rfl, (M2.at 1 rfl).cell (i := 1) rfl, (M2.at 1 rfl).free 0, (M2.at 1 rfl).free 1⟩)
          go_wp2_with (first
            | (go_at_call 26; refine (storeDay_any g u c hg1.out hu1.out ⟨hc1, hc2⟩ w.heap.size _ hcc).mono ?_; rintro e W2 ⟨rfl, hb⟩; rw [E1.out, E2.out]; have M2 := M.call hb; clear M hcc; obtain ⟨d1, d2, d3, d4⟩ := d0.out _ M2)
            | (refine wpList_load_part rfl 40 _ rfl (w.heap.size + 1) 0 rfl (vStock g u) _ (M.at 1 rfl).whole Tryd.underlying40 rfl (by kernel_rfl) ?_))
          go_roundw
          case rel => exact ⟨k + 1, by omega, by go_num, by rw [HG.out]; exact M2.cells 1 0 [.int .i64 G1, .int .i64 U1] rfl (vStock G1 U1) (((M2.at 1 rfl).set 0 _).set 1 _)⟩
          case measure => simp [intOf]; omega
        · obtain rfl : k = n := by omega
          have hB := Lib.hid M.below
          obtain ⟨g, hg⟩ : ∃ x, grainAt a m c k = x := ⟨_, rfl⟩
          obtain ⟨u, hu⟩ : ∃ x, miceAt m c k = x := ⟨_, rfl⟩
          rw [hg, hu] at M
          have HG := Lib.hid hg
          have HU := Lib.hid hu
          clear hg hu
          go_wp2_with fail
          have c0 := (M.at 1 rfl).cell (i := 0) (v := .int .i64 g) rfl
          have c1 := (M.at 1 rfl).cell (i := 1) (v := .int .i64 u) rfl
          go_quiet (fail)
          go_wp2_with fail
          go_ret3
          exact ⟨by simp only [Int.toNat_natCast, if_true, HG.out, HU.out]; rfl, below_drewN _ hB.out⟩
set_option maxHeartbeats 4000000 in
theorem implDaysOfStore (a m c d : Int) (A : Nat → Addr) (w : World) (S0 : Sents w A) : Calls Tryd.prog 10 #[.int .i64 a, .int .i64 m, .int .i64 c, .int .i64 d] w fun e w' => e = .returned (.tuple #[.int .i64 (dayVal a m c d), .int .i64 (dayCode a m c d)]) ∧ Below w.heap.size w w' := by
  have S : Hid (Sents w A) := Lib.hid S0
  have v2 := S0.v2
  clear S0
  have hif := isIfaceErr
  obtain ⟨q1, hok⟩ : ∃ x, stoOk a m c 0 = x := ⟨_, rfl⟩
  obtain ⟨q2, hq2⟩ : ∃ x, inB d 1 1000000 = x := ⟨_, rfl⟩
  have HQ := Lib.hid hq2
  have HO := Lib.hid hok
  have HV : Hid (dayVal a m c d = if (q1 && q2) = true then lessDay (firstLess a m c d 21) else 0) := Lib.hid (by unfold dayVal needOk7; rw [hok, hq2])
  have HC : Hid (dayCode a m c d = if (q1 && q2) = true then lessCode (firstLess a m c d 21) else 2) := Lib.hid (by unfold dayCode needOk7; rw [hok, hq2])
  clear hok hq2
  cases q1 with
  | false =>
    rw [HV.out, HC.out]
    clear v2
    go_enter Tryd.func10, Tryd.ntmps10
    go_wp2_with (first
      | (go_at_call 14; refine (checkStore_any a m c A _ S.out).mono ?_; rintro e w' ⟨rfl, rfl⟩; rw [HO.out, show stoErr A false = errVal (A 2) from rfl])
      | (go_at_call 15; refine (codeOf_err A 2 (by omega) (by omega) _ S.out).mono ?_; rintro e w' ⟨rfl, rfl⟩))
    go_ret2
    exact ⟨rfl, Below.refl _ _⟩
  | true =>
  cases q2 with
  | false =>
    rw [HV.out, HC.out]
    by_cases e0 : d = 0
    · subst e0
      go_enter Tryd.func10, Tryd.ntmps10
      go_wp2_with (first
        | (go_at_call 14; refine (checkStore_any a m c A _ S.out).mono ?_; rintro e w' ⟨rfl, rfl⟩; rw [HO.out, show stoErr A true = .nilIface from rfl])
        | (go_at_call 15; refine (codeOf_err A 2 (by omega) (by omega) _ S.out).mono ?_; rintro e w' ⟨rfl, rfl⟩))
      go_ret2
      exact ⟨rfl, Below.refl _ _⟩
    · have HZ : Hid (inB d 0 1000000 = false) := Lib.hid (by
        by_cases h1 : d < 0
        · exact inB_false (.inl h1)
        · by_cases h2 : 1000000 < d
          · exact inB_false (.inr h2)
          · have := inB_iff.2 (show 1 ≤ d ∧ d ≤ 1000000 by omega)
            rw [HQ.out] at this; cases this)
      go_enter Tryd.func10, Tryd.ntmps10
      go_wp2_with (first
        | (go_at_call 14; refine (checkStore_any a m c A _ S.out).mono ?_; rintro e w' ⟨rfl, rfl⟩; rw [HO.out, show stoErr A true = .nilIface from rfl])
        | (go_at_call 21; refine (isStore_any _ _).mono ?_; rintro e w' ⟨rfl, rfl⟩; rw [HZ.out])
        | (go_at_call 15; refine (codeOf_err A 2 (by omega) (by omega) _ S.out).mono ?_; rintro e w' ⟨rfl, rfl⟩))
      go_ret2
      exact ⟨rfl, Below.refl _ _⟩
  | true =>
    have HV2 : Hid (dayVal a m c d = lessDay (firstLess a m c d 21)) := Lib.hid (by rw [HV.out]; rfl)
    have HC2 : Hid (dayCode a m c d = lessCode (firstLess a m c d 21)) := Lib.hid (by rw [HC.out]; rfl)
    clear HV HC v2
    rw [HV2.out, HC2.out]
    obtain ⟨ha, hm, hc, _⟩ := stoOk_iff.1 HO.out
    have HA := Lib.hid ha
    have HM := Lib.hid hm
    have HC := Lib.hid hc
    obtain ⟨hd1, hd2⟩ := inB_iff.1 HQ.out
    have HZ : Hid (inB d 0 1000000 = true) := Lib.hid (inB_iff.2 (by omega))
    clear ha hm hc
    obtain ⟨o, ho⟩ : ∃ o, firstLess a m c d 21 = o := ⟨_, rfl⟩
    have HOO := Lib.hid ho
    rw [ho]
    clear ho
    have hd0 : ¬ d = 0 := by omega
    go_enter Tryd.func10, Tryd.ntmps10
    go_wp2_with (first
      | (go_at_call 14; refine (checkStore_any a m c A _ S.out).mono ?_; rintro e w' ⟨rfl, rfl⟩; rw [HO.out, show stoErr A true = .nilIface from rfl])
      | (go_at_call 21; refine (isStore_any _ _).mono ?_; rintro e w' ⟨rfl, rfl⟩; rw [HZ.out])
      | (go_at_call 17; refine (storeWith_any c _).mono ?_; rintro e w' ⟨rfl, rfl⟩))
    obtain ⟨W, hW, M⟩ := open2 w #[.int .i64 c] 2 (vStock a m) 40
    rw [show (w.alloc (.cells #[.int .i64 c] 2)).alloc (.cells #[.int .i64 a, .int .i64 m] 40) = W from hW]
    clear hW
    go_loopw [13] (fun i wr => ∃ k : Nat, k ≤ 21 ∧ i = .int .i64 k ∧ Hid (∀ i, i < k → d ≤ grainAt a m c i) ∧ Mem w wr [⟨w.heap.size, #[.int .i64 c], 2⟩, ⟨w.heap.size + 1, vStock (grainAt a m c k) (miceAt m c k), 40⟩]) (fun i _ => 21 - (intOf i).toNat)
    case atStart => exact ⟨0, by omega, rfl, Lib.hid (fun i hi => by omega), M⟩
    case round =>
      clear M
      obtain ⟨k, hk, rfl, hall, M⟩ := hrel
      by_cases hlt : k < 21
      · obtain ⟨g, hg⟩ : ∃ x, grainAt a m c k = x := ⟨_, rfl⟩
        obtain ⟨u, hu⟩ : ∃ x, miceAt m c k = x := ⟨_, rfl⟩
        obtain ⟨hc1, hc2⟩ := HC.out
        have hg1 := Lib.hid (grainAt_in HA.out HM.out hc1 k)
        have hu1 := Lib.hid (miceAt_in HM.out hc1 k)
        rw [hg] at hg1 M
        rw [hu] at hu1 M
        have HG0 := Lib.hid hg
        have HG := Lib.hid (show vStock (grainAt a m c (k + 1)) (miceAt m c (k + 1)) = vStock (g - eatD g u) (max 0 (u - c)) by rw [grainAt, miceAt, hg, hu])
        clear hg hu
        have hw20 : Hid (inB (k : Int) 0 20 = true) := Lib.hid (inB_iff.2 (by omega))
        have hcc : wr.cell? ⟨w.heap.size, 0, none⟩ = some (.int .i64 c) := (M.at 0 rfl).cell (i := 0) rfl
        have g0 : wr.cell? ⟨w.heap.size + 1, 0, none⟩ = some (.int .i64 g) := (M.at 1 rfl).cell (i := 0) rfl
        by_cases hless : g < d
        · have HS := Lib.hid ((firstLess_some hlt hall.out (by rw [HG0.out]; exact hless)).symm.trans HOO.out)
          go_wp2_with (go_at_call 16; refine (isWait_any _ _).mono ?_; rintro e w' ⟨rfl, rfl⟩; rw [hw20.out])
          go_ret2
          exact ⟨by rw [← HS.out]; rfl, M.below⟩
        · obtain ⟨G1, e1⟩ : ∃ x, g - eatD g u = x := ⟨_, rfl⟩
          obtain ⟨U1, e2⟩ : ∃ x, max 0 (u - c) = x := ⟨_, rfl⟩
          have E1 := Lib.hid e1
          have E2 := Lib.hid e2
          rw [e1, e2] at HG
          clear e1 e2
          have d0 : Hid (∀ W2, Mem w W2 [⟨w.heap.size, #[.int .i64 c], 2⟩, ⟨w.heap.size + 1, vStock g u, 40⟩] → W2.cell? ⟨w.heap.size + 1, 0, none⟩ = some (.int .i64 g) ∧ W2.cell? ⟨w.heap.size + 1, 1, none⟩ = some (.int .i64 u) ∧ W2.frozen? ⟨w.heap.size + 1, 0, none⟩ = false ∧ W2.frozen? ⟨w.heap.size + 1, 1, none⟩ = false) := Lib.hid (fun W2 M2 => ⟨(M2.at 1 rfl).cell (i := 0) rfl, (M2.at 1 rfl).cell (i := 1) rfl, (M2.at 1 rfl).free 0, (M2.at 1 rfl).free 1⟩)
          go_wp2_with (first
            | (go_at_call 16; refine (isWait_any _ _).mono ?_; rintro e w' ⟨rfl, rfl⟩; rw [hw20.out])
            | (go_at_call 26; refine (storeDay_any g u c hg1.out hu1.out ⟨hc1, hc2⟩ w.heap.size _ hcc).mono ?_; rintro e W2 ⟨rfl, hb⟩; rw [E1.out, E2.out]; have M2 := M.call hb; clear M hcc g0; obtain ⟨d1, d2, d3, d4⟩ := d0.out _ M2)
            | (refine wpList_load_part rfl 40 _ rfl (w.heap.size + 1) 0 rfl (vStock g u) _ (M.at 1 rfl).whole Tryd.underlying40 rfl (by kernel_rfl) ?_))
          go_roundw
          case rel => exact ⟨k + 1, by omega, by go_num, Lib.hid (upto_succ hall.out (by rw [HG0.out]; omega)), by rw [HG.out]; exact M2.cells 1 0 [.int .i64 G1, .int .i64 U1] rfl (vStock G1 U1) (((M2.at 1 rfl).set 0 _).set 1 _)⟩
          case measure => simp [intOf]; omega
      · obtain rfl : k = 21 := by omega
        have hw20 : Hid (inB (21 : Int) 0 20 = false) := Lib.hid rfl
        have HS := Lib.hid ((firstLess_none.2 hall.out).symm.trans HOO.out)
        have v6 := (S.out.later M.below).v6
        have S6 := Lib.hid (S.out.later M.below)
        have hB := Lib.hid M.below
        clear M
        go_wp2_with (first
          | (go_at_call 16; refine (isWait_any _ _).mono ?_; rintro e w' ⟨rfl, rfl⟩; first | rw [hw20.out] | exact absurd rfl id)
          | (go_at_call 15; refine (codeOf_err A 6 (by omega) (by omega) _ S6.out).mono ?_; rintro e w' ⟨rfl, rfl⟩))
        go_ret2
        exact ⟨by rw [← HS.out]; rfl, hB.out⟩
theorem specStoreAfterB (a m c d : Int) (w : World) : Calls Tryd.prog 9 #[.int .i64 a, .int .i64 m, .int .i64 c, .int .i64 d] w fun e w' => e = .returned (.tuple #[.int .i64 (stoVal a m c d), .int .i64 (stoMice a m c d), .int .i64 (stoCode (stoOk a m c d))]) ∧ Below w.heap.size w w' :=
  (specStoreAfter a m c d w).mono (fun e w' h => ⟨h.1, by rw [← h.2]; exact Below.refl _ _⟩)
theorem specDaysOfStoreB (a m c d : Int) (w : World) : Calls Tryd.prog 11 #[.int .i64 a, .int .i64 m, .int .i64 c, .int .i64 d] w fun e w' => e = .returned (.tuple #[.int .i64 (dayVal a m c d), .int .i64 (dayCode a m c d)]) ∧ Below w.heap.size w w' :=
  (specDaysOfStore a m c d w).mono (fun e w' h => ⟨h.1, by rw [← h.2]; exact Below.refl _ _⟩)
end Go.Proofs.YtifcaedbclgahaaDoor
