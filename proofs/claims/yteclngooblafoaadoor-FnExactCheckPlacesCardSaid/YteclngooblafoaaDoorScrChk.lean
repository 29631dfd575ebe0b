/-
  The program's tests on scarecrows and places: hasText, checkPlace, checkFree.
-/
import Derived.Test.YteclngooblafoaaDoorScrOk
import Derived.Test.YteclngooblafoaaDoorCoreA
import Derived.Test.YteclngooblafoaaDoorCoreC
namespace Go.Proofs.YteclngooblafoaaDoor
open Go Go.RowKit Go.WideShapes Go.ChangeShapes

/-- The two sentinels that places are refused by. -/
structure Sent24 (w : World) (A : Nat → Addr) : Prop where
  v2 : w.cell? ⟨0, 0, none⟩ = some (errVal (A 2))
  v4 : w.cell? ⟨3, 0, none⟩ = some (errVal (A 4))
theorem Sent24.later {w w' : World} {A : Nat → Addr} (h : Sent24 w A) (hb : Below w.heap.size w w') : Sent24 w' A := ⟨cell_later h.v2 hb, cell_later h.v4 hb⟩
theorem Sents.two {w : World} {A : Nat → Addr} (h : Sents w A) : Sent24 w A := ⟨h.v2, h.v4⟩

theorem isNumber_ok (n : Int) (w : World) : Calls Tryd.prog 70 #[.int .i64 n] w fun e w' => e = .returned (.bool (inB n 0 99)) ∧ w = w' := by
  by_cases h1 : 0 ≤ n
  · by_cases h2 : n < 100
    · rw [inB_iff.2 ⟨h1, by omega⟩]
      go_enter Tryd.func70, Tryd.ntmps70
      go_wp2_with fail
      go_ret
      exact ⟨rfl, rfl⟩
    · rw [inB_false (.inr (by omega))]
      go_enter Tryd.func70, Tryd.ntmps70
      go_wp2_with fail
      go_ret
      exact ⟨rfl, rfl⟩
  · rw [inB_false (.inl (by omega))]
    go_enter Tryd.func70, Tryd.ntmps70
    go_wp2_with fail
    go_ret
    exact ⟨rfl, rfl⟩
theorem isPower_ok (n : Int) (w : World) : Calls Tryd.prog 48 #[.int .i64 n] w fun e w' => e = .returned (.bool (inB n 1 1000)) ∧ w = w' := by
  by_cases h1 : 1 ≤ n
  · by_cases h2 : n ≤ 1000
    · rw [inB_iff.2 ⟨h1, by omega⟩]
      go_enter Tryd.func48, Tryd.ntmps48
      go_wp2_with fail
      go_ret
      exact ⟨rfl, rfl⟩
    · rw [inB_false (.inr (by omega))]
      go_enter Tryd.func48, Tryd.ntmps48
      go_wp2_with fail
      go_ret
      exact ⟨rfl, rfl⟩
  · rw [inB_false (.inl (by omega))]
    go_enter Tryd.func48, Tryd.ntmps48
    go_wp2_with fail
    go_ret
    exact ⟨rfl, rfl⟩
set_option maxRecDepth 100000 in
set_option maxHeartbeats 1000000 in
theorem scrText_any (a : Nat → Int) (ha : WfT a) (w : World) : Calls Tryd.prog 90 #[vScarecrow a] w fun e w' => e = .returned (.bool (shapeOk a)) ∧ Below w.heap.size w w' := by
  obtain ⟨⟨a01, a02⟩, ⟨a11, a12⟩, ⟨a21, a22⟩⟩ := ha
  cases q1 : inB (a 0) 0 99 with
  | false =>
    have hr : shapeOk a = false := by simp [shapeOk, q1]
    rw [hr]; clear hr
    go_enter Tryd.func90, Tryd.ntmps90
    go_wp2_with (first | (go_at_call 70; refine (isNumber_ok _ _).mono ?_; rintro e w' ⟨rfl, rfl⟩; rw [q1]))
    go_ret
    exact ⟨rfl, (Below.refl _ _).alloc (Nat.le_refl _) _⟩
  | true =>
    cases q2 : inB (a 1) 1 1000 with
    | false =>
      have hr : shapeOk a = false := by simp [shapeOk, q1, q2]
      rw [hr]; clear hr
      go_enter Tryd.func90, Tryd.ntmps90
      go_wp2_with (first | (go_at_call 70; refine (isNumber_ok _ _).mono ?_; rintro e w' ⟨rfl, rfl⟩; rw [q1]) | (go_at_call 48; refine (isPower_ok _ _).mono ?_; rintro e w' ⟨rfl, rfl⟩; rw [q2]))
      go_ret
      exact ⟨rfl, (Below.refl _ _).alloc (Nat.le_refl _) _⟩
    | true =>
      by_cases h0 : 0 ≤ a 2
      · by_cases h1 : a 2 ≤ 30
        · have hr : shapeOk a = true := by have q3 : inB (a 2) 0 30 = true := inB_iff.2 ⟨h0, h1⟩; simp [shapeOk, q1, q2, q3]
          rw [hr]; clear hr
          go_enter Tryd.func90, Tryd.ntmps90
          go_wp2_with (first | (go_at_call 70; refine (isNumber_ok _ _).mono ?_; rintro e w' ⟨rfl, rfl⟩; rw [q1]) | (go_at_call 48; refine (isPower_ok _ _).mono ?_; rintro e w' ⟨rfl, rfl⟩; rw [q2]))
          go_ret
          exact ⟨rfl, (Below.refl _ _).alloc (Nat.le_refl _) _⟩
        · have hr : shapeOk a = false := by have q3 : inB (a 2) 0 30 = false := inB_false (.inr (by omega)); simp [shapeOk, q3]
          rw [hr]; clear hr
          go_enter Tryd.func90, Tryd.ntmps90
          go_wp2_with (first | (go_at_call 70; refine (isNumber_ok _ _).mono ?_; rintro e w' ⟨rfl, rfl⟩; rw [q1]) | (go_at_call 48; refine (isPower_ok _ _).mono ?_; rintro e w' ⟨rfl, rfl⟩; rw [q2]))
          go_ret
          exact ⟨ret_bool (by simp; omega), (Below.refl _ _).alloc (Nat.le_refl _) _⟩
      · have hr : shapeOk a = false := by have q3 : inB (a 2) 0 30 = false := inB_false (.inl (by omega)); simp [shapeOk, q3]
        rw [hr]; clear hr
        go_enter Tryd.func90, Tryd.ntmps90
        go_wp2_with (first | (go_at_call 70; refine (isNumber_ok _ _).mono ?_; rintro e w' ⟨rfl, rfl⟩; rw [q1]) | (go_at_call 48; refine (isPower_ok _ _).mono ?_; rintro e w' ⟨rfl, rfl⟩; rw [q2]))
        go_ret
        exact ⟨rfl, (Below.refl _ _).alloc (Nat.le_refl _) _⟩

def placeErr (A : Nat → Addr) (f : Fd) (c : Int) : Value := if isCell f c then (if f.K c.toNat = 3 then errVal (A 4) else .nilIface) else errVal (A 2)
set_option maxRecDepth 100000 in
set_option maxHeartbeats 1000000 in
theorem checkPlace_any (f : Fd) (hf : f.Wf) (hok : okF f = true) (c : Int) (hc1 : -9223372036854775808 ≤ c) (hc2 : c ≤ 9223372036854775807) (A : Nat → Addr) (w : World) (S0 : Sent24 w A) :
    Calls Tryd.prog 71 #[.agg (fcells f), .int .i64 c] w fun e w' => e = .returned (placeErr A f c) ∧ Below w.heap.size w w' := by
  have S := Lib.hid S0
  clear S0
  have hH : f.H ≤ 10 := (okF_size hok).2.2.2
  cases hc : isCell f c with
  | false =>
    have hr : placeErr A f c = errVal (A 2) := by simp [placeErr, hc]
    rw [hr]; clear hr
    go_enter Tryd.func71, Tryd.ntmps71
    go_upto_region 1 with (fail)
    obtain ⟨W, hW, M⟩ := open1 w (fcells f) 33
    rw [hW]; clear hW
    go_wp2_with (first
      | (refine wpList_load_part rfl 33 _ rfl w.heap.size 0 rfl (fcells f) _ (M.at 0 rfl).whole Tryd.underlying33 rfl (by rw [fcells_size]; exact sizeFd) ?_)
      | (go_at_call 74; refine (fieldHas_any f hf hH c hc1 hc2 _).mono ?_; rintro e W4 ⟨rfl, hb⟩; rw [hc]; have M4 := M.call hb; have hv2 := (S.out.later M4.below).v2))
    go_ret
    exact ⟨rfl, M4.below⟩
  | true =>
    obtain ⟨n, hn, rfl⟩ := cell_nat hc
    have hn1 : (n : Int) < 100 := by omega
    obtain ⟨hK1, hK2⟩ := hf.K n hn
    by_cases hk : f.K n = 3
    · have hr : placeErr A f n = errVal (A 4) := by simp [placeErr, hc, hk]
      rw [hr]; clear hr
      go_enter Tryd.func71, Tryd.ntmps71
      go_upto_region 1 with (fail)
      obtain ⟨W, hW, M⟩ := open1 w (fcells f) 33
      rw [hW]; clear hW
      go_wp2_with (first
        | (refine wpList_load_part rfl 33 _ rfl w.heap.size 0 rfl (fcells f) _ (M.at 0 rfl).whole Tryd.underlying33 rfl (by rw [fcells_size]; exact sizeFd) ?_)
        | (go_at_call 74; refine (fieldHas_any f hf hH n hc1 hc2 _).mono ?_; rintro e W4 ⟨rfl, hb⟩; rw [hc]; have M4 := M.call hb; have hv4 := (S.out.later M4.below).v4; have cK := (M4.at 0 rfl).cell (fcells_K f n hn); rw [hk] at cK))
      go_ret
      exact ⟨rfl, M4.below⟩
    · have hr : placeErr A f n = .nilIface := by simp [placeErr, hc, hk]
      rw [hr]; clear hr
      go_enter Tryd.func71, Tryd.ntmps71
      go_upto_region 1 with (fail)
      obtain ⟨W, hW, M⟩ := open1 w (fcells f) 33
      rw [hW]; clear hW
      go_wp2_with (first
        | (refine wpList_load_part rfl 33 _ rfl w.heap.size 0 rfl (fcells f) _ (M.at 0 rfl).whole Tryd.underlying33 rfl (by rw [fcells_size]; exact sizeFd) ?_)
        | (go_at_call 74; refine (fieldHas_any f hf hH n hc1 hc2 _).mono ?_; rintro e W4 ⟨rfl, hb⟩; rw [hc]; have M4 := M.call hb; have cK := (M4.at 0 rfl).cell (fcells_K f n hn)))
      go_ret
      exact ⟨rfl, M4.below⟩

theorem standsAt_any (a : Nat → Int) (ha : WfT a) (c : Int) (pb : Nat) (w : World) (hc : w.cell? ⟨pb, 0, none⟩ = some (.int .i64 c)) :
    Calls Tryd.prog 100 #[vScarecrow a, .pointer (some ⟨pb, 0, none⟩)] w fun e w' => e = .returned (.bool (a 0 == c)) ∧ Below w.heap.size w w' := by
  obtain ⟨⟨a01, a02⟩, _, _⟩ := ha
  have hlt := World.block_lt_of_cell? _ _ hc
  go_enter Tryd.func100, Tryd.ntmps100
  go_wp2_with fail
  go_ret
  exact ⟨rfl, (Below.refl _ _).alloc (Nat.le_refl _) _⟩
set_option maxRecDepth 100000 in
set_option maxHeartbeats 1000000 in
theorem indexFunc_any (n : Nat) (hn : n ≤ 2 ^ 40) (F : Nat → Nat → Int) (hF : WfS ksScarecrow n F) (d cp pb : Nat) (c : Int) (w : World) (I : InS w d 0 n ksScarecrow F) (hc : w.cell? ⟨pb, 0, none⟩ = some (.int .i64 c)) :
    Calls Tryd.prog 103 #[.slice (some ⟨d, 0, none⟩) n cp, .func (.func 100) #[] #[.pointer (some ⟨pb, 0, none⟩)]] w fun e w' => (∃ r : Int, e = .returned (.int .i64 r) ∧ -1 ≤ r ∧ r ≤ 2 ^ 40 ∧ decide (0 ≤ r) = !freeAt F n c) ∧ Below w.heap.size w w' := by
  have HI := Lib.hid I
  have HF := Lib.hid hF
  have HC := Lib.hid hc
  clear I hF hc
  go_enter Tryd.func103, Tryd.ntmps103
  go_wp2_with fail
  go_loopw [8] (fun i wr => ∃ k : Nat, k ≤ n ∧ i = .int .i64 k ∧ Hid (Below w.heap.size w wr) ∧ Hid (∀ j, j < k → (F j 0 != c) = true)) (fun i _ => n - (intOf i).toNat)
  case atStart => exact ⟨0, by omega, rfl, Lib.hid (Below.refl _ _), Lib.hid (fun i hi => by omega)⟩
  case round =>
    obtain ⟨k, hk, rfl, hb, hall⟩ := hrel
    by_cases hlt : k < n
    · obtain ⟨c0, c1, c2⟩ : ScrAt wr d (k * 3) (F k) := scrAt_of (by have h := HI.out.later hb.out k hlt; rw [Nat.zero_add] at h; exact h)
      have hr := Lib.hid (wfT_row HF.out hlt)
      have hcell := Lib.hid (cell_later HC.out hb.out)
      cases q : (F k 0 == c) with
      | true =>
        have hx : Hid (freeAt F n c = false) := Lib.hid (allTo_false hlt (by simpa using q))
        go_wp2_with (go_at_call 100; refine (standsAt_any (F k) hr.out c pb _ hcell.out).mono ?_; rintro e W2 ⟨rfl, hb2⟩; rw [q]; have B2 := Lib.hid (hb.out.trans (hb2.mono hb.out.size)); clear hb2)
        go_ret
        exact ⟨⟨k, rfl, by omega, by omega, by rw [hx.out]; simp⟩, B2.out⟩
      | false =>
        go_wp2_with (go_at_call 100; refine (standsAt_any (F k) hr.out c pb _ hcell.out).mono ?_; rintro e W2 ⟨rfl, hb2⟩; rw [q]; have B2 := Lib.hid (hb.out.trans (hb2.mono hb.out.size)); clear hb2)
        go_roundw
        case rel => exact ⟨k + 1, by omega, by go_num, B2, Lib.hid (upto_succ hall.out (by simpa using q))⟩
        case measure => simp [intOf]; omega
    · obtain rfl : k = n := by omega
      have hx : Hid (freeAt F k c = true) := Lib.hid (allTo_iff.2 hall.out)
      go_wp2_with fail
      go_ret
      exact ⟨⟨-1, rfl, by omega, by omega, by rw [hx.out]; rfl⟩, hb.out⟩
theorem containsFunc_any (n : Nat) (hn : n ≤ 2 ^ 40) (F : Nat → Nat → Int) (hF : WfS ksScarecrow n F) (d cp pb : Nat) (c : Int) (w : World) (I : InS w d 0 n ksScarecrow F) (hc : w.cell? ⟨pb, 0, none⟩ = some (.int .i64 c)) :
    Calls Tryd.prog 99 #[.slice (some ⟨d, 0, none⟩) n cp, .func (.func 100) #[] #[.pointer (some ⟨pb, 0, none⟩)]] w fun e w' => e = .returned (.bool (!freeAt F n c)) ∧ Below w.heap.size w w' := by
  go_enter Tryd.func99, Tryd.ntmps99
  go_wp2_with (go_at_call 103; refine (indexFunc_any n hn F hF d cp pb c _ I hc).mono ?_; rintro e W2 ⟨⟨r, rfl, hr1, hr2, hr3⟩, hb⟩)
  go_ret
  exact ⟨by rw [← hr3]; rfl, hb⟩

def freeErr (A : Nat → Addr) (f : Fd) (F : Nat → Nat → Int) (k : Nat) (c : Int) : Value := if standsOk f c then (if freeAt F k c then .nilIface else errVal (A 4)) else placeErr A f c
theorem place_stands {A : Nat → Addr} {f : Fd} {c : Int} (h : standsOk f c = true) : placeErr A f c = .nilIface := by
  simp only [standsOk, Bool.and_eq_true, bne_iff_ne] at h
  simp [placeErr, h.1, h.2]
theorem place_none {A : Nat → Addr} {f : Fd} {c : Int} (h : standsOk f c = false) : ∃ j, placeErr A f c = errVal (A j) := by
  unfold placeErr
  cases hc : isCell f c with
  | false => exact ⟨2, by simp⟩
  | true =>
    by_cases hk : f.K c.toNat = 3
    · exact ⟨4, by simp [hk]⟩
    · simp [standsOk, hc, hk] at h
set_option maxRecDepth 100000 in
set_option maxHeartbeats 1000000 in
theorem checkFree_any (f : Fd) (hf : f.Wf) (hok : okF f = true) (n : Nat) (hn : n ≤ 2 ^ 40) (F : Nat → Nat → Int) (hF : WfS ksScarecrow n F) (d cp : Nat) (c : Int) (hc1 : -9223372036854775808 ≤ c) (hc2 : c ≤ 9223372036854775807) (A : Nat → Addr) (w : World) (S0 : Sent24 w A) (I0 : InS w d 0 n ksScarecrow F) :
    Calls Tryd.prog 91 #[.agg (fcells f), .slice (some ⟨d, 0, none⟩) n cp, .int .i64 c] w fun e w' => e = .returned (freeErr A f F n c) ∧ Below w.heap.size w w' := by
  have S := Lib.hid S0
  have I := Lib.hid I0
  clear S0 I0
  have hif := isIfaceErr
  unfold freeErr
  cases hs : standsOk f c with
  | false =>
    simp only [Bool.false_eq_true, if_false]
    obtain ⟨j, hj⟩ := place_none (A := A) hs
    rw [hj]
    go_enter Tryd.func91, Tryd.ntmps91
    go_upto_region 1 with (fail)
    obtain ⟨W, hW, M⟩ := open2 w (fcells f) 33 #[.int .i64 c] 2
    rw [hW]; clear hW
    have cc := (M.at 1 rfl).cell (i := 0) rfl
    go_wp2_with (first
      | (refine wpList_load_part rfl 33 _ rfl w.heap.size 0 rfl (fcells f) _ (M.at 0 rfl).whole Tryd.underlying33 rfl (by rw [fcells_size]; exact sizeFd) ?_)
      | (go_at_call 71; refine (checkPlace_any f hf hok c hc1 hc2 A _ (S.out.later M.below)).mono ?_; rintro e W2 ⟨rfl, hb⟩; rw [hj]; have M2 := M.call hb))
    go_ret
    exact ⟨rfl, M2.below⟩
  | true =>
    simp only [if_true]
    cases hfr : freeAt F n c with
    | true =>
      simp only [if_true]
      go_enter Tryd.func91, Tryd.ntmps91
      go_upto_region 1 with (fail)
      obtain ⟨W, hW, M⟩ := open2 w (fcells f) 33 #[.int .i64 c] 2
      rw [hW]; clear hW
      have cc := (M.at 1 rfl).cell (i := 0) rfl
      go_wp2_with (first
        | (refine wpList_load_part rfl 33 _ rfl w.heap.size 0 rfl (fcells f) _ (M.at 0 rfl).whole Tryd.underlying33 rfl (by rw [fcells_size]; exact sizeFd) ?_)
        | (go_at_call 71; refine (checkPlace_any f hf hok c hc1 hc2 A _ (S.out.later M.below)).mono ?_; rintro e W2 ⟨rfl, hb⟩; rw [place_stands hs]; have M2 := M.call hb)
        | (go_at_call 99; refine (containsFunc_any n hn F hF d cp _ c _ (I.out.later M2.below) ((M2.at 1 rfl).cell (i := 0) rfl)).mono ?_; rintro e W3 ⟨rfl, hb3⟩; rw [hfr]; have M3 := M2.call hb3))
      go_ret
      exact ⟨rfl, M3.below⟩
    | false =>
      simp only [Bool.false_eq_true, if_false]
      go_enter Tryd.func91, Tryd.ntmps91
      go_upto_region 1 with (fail)
      obtain ⟨W, hW, M⟩ := open2 w (fcells f) 33 #[.int .i64 c] 2
      rw [hW]; clear hW
      have cc := (M.at 1 rfl).cell (i := 0) rfl
      go_wp2_with (first
        | (refine wpList_load_part rfl 33 _ rfl w.heap.size 0 rfl (fcells f) _ (M.at 0 rfl).whole Tryd.underlying33 rfl (by rw [fcells_size]; exact sizeFd) ?_)
        | (go_at_call 71; refine (checkPlace_any f hf hok c hc1 hc2 A _ (S.out.later M.below)).mono ?_; rintro e W2 ⟨rfl, hb⟩; rw [place_stands hs]; have M2 := M.call hb)
        | (go_at_call 99; refine (containsFunc_any n hn F hF d cp _ c _ (I.out.later M2.below) ((M2.at 1 rfl).cell (i := 0) rfl)).mono ?_; rintro e W3 ⟨rfl, hb3⟩; rw [hfr]; have M3 := M2.call hb3; have hv4 := (S.out.later M3.below).v4))
      go_ret
      exact ⟨rfl, M3.below⟩
end Go.Proofs.YteclngooblafoaaDoor
