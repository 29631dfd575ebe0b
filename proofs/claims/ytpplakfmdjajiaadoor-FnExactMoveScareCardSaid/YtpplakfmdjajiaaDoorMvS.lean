/-
  MoveScare: the model's and the program's.
-/
import Derived.Test.YtpplakfmdjajiaaDoorAgeN
import Derived.Test.YtpplakfmdjajiaaDoorFree
namespace Go.Proofs.YtpplakfmdjajiaaDoor
open Go Go.RowKit

def setAt (F : Nat → Nat → Int) (i j : Nat) (v : Int) : Nat → Nat → Int := fun p q => if p = i ∧ q = j then v else F p q
/-- The scarecrows, one moved. -/
def moved (F : Nat → Nat → Int) (i c : Int) : Nat → Nat → Int := setAt (setAt F i.toNat 0 c) i.toNat 2 0
/-- What the rows hold. -/
def RowsAre (F : Nat → Nat → Int) (n : Nat) (cs : Array Value) : Prop := n * 3 ≤ cs.size ∧ ∀ i, i < n → ∀ j, j < 3 → cs[i * 3 + j]? = some (sget ksScarecrow F i j)
theorem RowsAre.put {F : Nat → Nat → Int} {n : Nat} {cs : Array Value} (h : RowsAre F n cs) {i j : Nat} (hi : i < n) (hj : j < 3) (v : Int) : RowsAre (setAt F i j v) n (cs.setIfInBounds (i * 3 + j) (.int (ksScarecrow.getD j .i64) v)) := by
  refine ⟨by rw [Array.size_setIfInBounds]; exact h.1, fun p hp q hq => ?_⟩
  rw [Array.getElem?_setIfInBounds]
  by_cases e : i * 3 + j = p * 3 + q
  · obtain ⟨rfl, rfl⟩ : i = p ∧ j = q := by omega
    have := h.1
    rw [if_pos rfl, if_pos (by omega)]
    unfold sget setAt
    rw [if_pos ⟨rfl, rfl⟩]
  · rw [if_neg e, h.2 p hp q hq]
    unfold sget setAt
    rw [if_neg (by rintro ⟨rfl, rfl⟩; exact e rfl)]
theorem RowsAre.start {F : Nat → Nat → Int} {n : Nat} {cs : Array Value} (h1 : n * ksScarecrow.length ≤ cs.size) (h2 : ∀ i, i < n → ∀ j, j < ksScarecrow.length → cs[i * ksScarecrow.length + j]? = some (sget ksScarecrow F i j)) : RowsAre F n cs := ⟨h1, h2⟩
theorem RowsAre.so {F : Nat → Nat → Int} {n : Nat} {cs : Array Value} (h : RowsAre F n cs) {lo b : Nat} {w : World} {t : TypeId} (hlo : lo ≤ b) (B : Blk w b cs t) : SO ksScarecrow t lo w (some ⟨b, 0, none⟩) n F :=
  .inr ⟨b, cs, rfl, hlo, h.1, B, h.2⟩
theorem set_same3 {cs : Array Value} {p : Nat} {u : Value} (hu : cs[p]? = some u) : cs.setIfInBounds p u = cs := by
  apply Array.ext_getElem?
  intro q
  rw [Array.getElem?_setIfInBounds]
  by_cases e : p = q
  · subst e
    rw [if_pos rfl, if_pos (Array.getElem?_eq_some_iff.1 hu).1, hu]
  · rw [if_neg e]
def mvCode (f : Fd) (n : Nat) (F : Nat → Nat → Int) (i c : Int) : Int := if askCode f n F (isCell f c && inB i 0 ((n : Int) - 1)) = 0 then (if takenB f n F c.toNat then 4 else 0) else askCode f n F (isCell f c && inB i 0 ((n : Int) - 1))
def mvN (f : Fd) (n : Nat) (F : Nat → Nat → Int) (i c : Int) : Nat := if askCode f n F (isCell f c && inB i 0 ((n : Int) - 1)) = 0 then (if takenB f n F c.toNat then 0 else n) else 0
theorem mvN_le (f : Fd) (n : Nat) (F : Nat → Nat → Int) (i c : Int) (hn : n ≤ 2 ^ 40) : mvN f n F i c ≤ 2 ^ 40 := by unfold mvN; split <;> (try split) <;> omega
set_option maxRecDepth 100000 in
set_option maxHeartbeats 8000000 in
theorem specMoveScare (f : Fd) (hf : f.Wf) (n : Nat) (hn : n ≤ 2 ^ 40) (F : Nat → Nat → Int) (hF : WfS ksScarecrow n F) (i : Int) (hib : -9223372036854775808 ≤ i ∧ i ≤ 9223372036854775807) (c : Int) (hcb : -9223372036854775808 ≤ c ∧ c ≤ 9223372036854775807) (b cap : Nat) (w : World) (I : InS w b 0 n ksScarecrow F) :
    Calls Tryd.prog 23 #[.agg (fcells f), .slice (some ⟨b, 0, none⟩) n cap, .int .i64 i, .int .i64 c] w fun e w' => ∃ p c', e = .returned (.tuple #[.slice p (mvN f n F i c) c', .int .i64 (mvCode f n F i c)]) ∧ SV ksScarecrow w.heap.size w'.heap.size w' p (mvN f n F i c) (moved F i c) ∧ SW ksScarecrow 69 w.heap.size w'.heap.size w' p (mvN f n F i c) ∧ Below w.heap.size w w' := by
  have HI := Lib.hid I
  clear I
  obtain ⟨fine, hfi⟩ : ∃ fine, (isCell f c && inB i 0 ((n : Int) - 1)) = fine := ⟨_, rfl⟩
  unfold mvN mvCode
  rw [hfi]
  cases hcl : isCell f c with
  | false =>
    have HCL := Lib.hid hcl
    obtain rfl : fine = false := by rw [← hfi, hcl]; rfl
    clear hfi hcl
    obtain ⟨k, hk0, hk⟩ : ∃ k : Int, k ≠ 0 ∧ askCode f n F false = k := by
      rcases ask_cases f n F false with ⟨h, h1, h2⟩ | ⟨h, _⟩ | ⟨h, _⟩
      · first | (cases h2; done) | (rw [h1] at hs; cases hs; done)
      · exact ⟨1, by decide, h⟩
      · exact ⟨2, by decide, h⟩
    rw [hk, if_neg hk0, if_neg hk0]
    have HC := Lib.hid hk
    have hkb : (k != 0) = true := by simpa using hk0
    clear hk hk0
    go_enter Tryd.func23, Tryd.ntmps23
    go_upto_region 1 with (fail)
    obtain ⟨W, hW, M⟩ := open1 w (fcells f) 32
    rw [hW]; clear hW
    go_wp2_with (first
      | (go_at_call 43; refine (l01Is_any f _ w.heap.size _ hf.W hf.H (M.at 0 rfl)).mono ?_; rintro e w9 ⟨rfl, rfl⟩; rw [HCL.out])
      | (go_at_call 42; refine (l03Asked_any f hf n hn F hF false w.heap.size b cap _ (M.at 0 rfl) (HI.out.later M.below)).mono ?_; rintro e W3 ⟨rfl, hb⟩; rw [HC.out]; have M3 := M.call hb; clear M hb))
    go_ret2
    exact ⟨_, _, rfl, .inl rfl, .inl rfl, (M3.alloc #[] 69).below⟩
  | true =>
  have HCL := Lib.hid hcl
  cases hp : inB i 0 ((n : Int) - 1) with
  | false =>
    have HIN := Lib.hid hp
    obtain rfl : fine = false := by rw [← hfi, hcl, hp]; rfl
    clear hfi hcl hp
    obtain ⟨k, hk0, hk⟩ : ∃ k : Int, k ≠ 0 ∧ askCode f n F false = k := by
      rcases ask_cases f n F false with ⟨h, h1, h2⟩ | ⟨h, _⟩ | ⟨h, _⟩
      · first | (cases h2; done) | (rw [h1] at hs; cases hs; done)
      · exact ⟨1, by decide, h⟩
      · exact ⟨2, by decide, h⟩
    rw [hk, if_neg hk0, if_neg hk0]
    have HC := Lib.hid hk
    have hkb : (k != 0) = true := by simpa using hk0
    clear hk hk0
    go_enter Tryd.func23, Tryd.ntmps23
    go_upto_region 1 with (fail)
    obtain ⟨W, hW, M⟩ := open1 w (fcells f) 32
    rw [hW]; clear hW
    go_wp2_with (first
      | (go_at_call 43; refine (l01Is_any f _ w.heap.size _ hf.W hf.H (M.at 0 rfl)).mono ?_; rintro e w9 ⟨rfl, rfl⟩; rw [HCL.out])
      | (go_at_call 53; refine (l00In_any _ _ _ _).mono ?_; rintro e w9 ⟨rfl, rfl⟩; rw [HIN.out])
      | (go_at_call 42; refine (l03Asked_any f hf n hn F hF false w.heap.size b cap _ (M.at 0 rfl) (HI.out.later M.below)).mono ?_; rintro e W3 ⟨rfl, hb⟩; rw [HC.out]; have M3 := M.call hb; clear M hb))
    go_ret2
    exact ⟨_, _, rfl, .inl rfl, .inl rfl, (M3.alloc #[] 69).below⟩
  | true =>
    have HIN := Lib.hid hp
    obtain rfl : fine = true := by rw [← hfi, hcl, hp]; rfl
    obtain ⟨m, hm, rfl⟩ := cell_nat hcl
    have hpp := inB_iff.1 hp
    clear hfi hcl hp
    rw [Int.toNat_natCast]
    cases hs : okScares f n F with
    | false =>
      obtain ⟨k, hk0, hk⟩ : ∃ k : Int, k ≠ 0 ∧ askCode f n F true = k := by
        rcases ask_cases f n F true with ⟨h, h1, h2⟩ | ⟨h, _⟩ | ⟨h, _⟩
        · first | (cases h2; done) | (rw [h1] at hs; cases hs; done)
        · exact ⟨1, by decide, h⟩
        · exact ⟨2, by decide, h⟩
      rw [hk, if_neg hk0, if_neg hk0]
      have HC := Lib.hid hk
      have hkb : (k != 0) = true := by simpa using hk0
      clear hk hk0
      go_enter Tryd.func23, Tryd.ntmps23
      go_upto_region 1 with (fail)
      obtain ⟨W, hW, M⟩ := open1 w (fcells f) 32
      rw [hW]; clear hW
      go_wp2_with (first
        | (go_at_call 43; refine (l01Is_any f _ w.heap.size _ hf.W hf.H (M.at 0 rfl)).mono ?_; rintro e w9 ⟨rfl, rfl⟩; rw [HCL.out])
        | (go_at_call 53; refine (l00In_any _ _ _ _).mono ?_; rintro e w9 ⟨rfl, rfl⟩; rw [HIN.out])
        | (go_at_call 42; refine (l03Asked_any f hf n hn F hF true w.heap.size b cap _ (M.at 0 rfl) (HI.out.later M.below)).mono ?_; rintro e W3 ⟨rfl, hb⟩; rw [HC.out]; have M3 := M.call hb; clear M hb))
      go_ret2
      exact ⟨_, _, rfl, .inl rfl, .inl rfl, (M3.alloc #[] 69).below⟩
    | true =>
      have hk := ask_ok (fine := true) hs rfl
      rw [hk, if_pos rfl, if_pos rfl]
      have HC := Lib.hid hk
      have HWF := Lib.hid (fun i (hi : i < n) => wfT_row hF hi)
      clear hk hs
      cases ht : takenB f n F m with
      | true =>
        have HT := Lib.hid ht
        rw [if_pos rfl, if_pos rfl]
        clear ht
        go_enter Tryd.func23, Tryd.ntmps23
        go_upto_region 1 with (fail)
        obtain ⟨W, hW, M⟩ := open1 w (fcells f) 32
        rw [hW]; clear hW
        go_wp2_with (first
          | (go_at_call 43; refine (l01Is_any f _ w.heap.size _ hf.W hf.H (M.at 0 rfl)).mono ?_; rintro e w9 ⟨rfl, rfl⟩; rw [HCL.out])
          | (go_at_call 53; refine (l00In_any _ _ _ _).mono ?_; rintro e w9 ⟨rfl, rfl⟩; rw [HIN.out])
          | (go_at_call 42; refine (l03Asked_any f hf n hn F hF true w.heap.size b cap _ (M.at 0 rfl) (HI.out.later M.below)).mono ?_; rintro e W3 ⟨rfl, hb⟩; rw [HC.out]; have M3 := M.call hb; clear M hb)
          | (go_at_call 56; refine (l03Taken_any f n hn F HWF.out m hm w.heap.size b cap _ (M3.at 0 rfl) (HI.out.later M3.below)).mono ?_; rintro e W4 ⟨rfl, hb⟩; rw [HT.out]; have M4 := M3.call hb; clear M3 hb))
        go_ret2
        exact ⟨_, _, rfl, .inl rfl, .inl rfl, (M4.alloc #[] 69).below⟩
      | false =>
        have HT := Lib.hid ht
        rw [if_neg (by decide), if_neg (by decide)]
        clear ht
        obtain ⟨k, rfl⟩ : ∃ k : Nat, i = k := ⟨i.toNat, by omega⟩
        have hkn : k < n := by omega
        have hm1 : IntKind.i16.wrap (m : Int) = m := IntWalk.i16_in _ (by omega)
        obtain ⟨i0, hi, hz0, hz1, hz2⟩ := info_parts Cinfo
        go_enter Tryd.func23, Tryd.ntmps23
        go_upto_region 1 with (fail)
        obtain ⟨W, hW, M⟩ := open1 w (fcells f) 32
        rw [hW]; clear hW
        go_wp2_with (first
          | (go_at_call 43; refine (l01Is_any f _ w.heap.size _ hf.W hf.H (M.at 0 rfl)).mono ?_; rintro e w9 ⟨rfl, rfl⟩; rw [HCL.out])
          | (go_at_call 53; refine (l00In_any _ _ _ _).mono ?_; rintro e w9 ⟨rfl, rfl⟩; rw [HIN.out])
          | (go_at_call 42; refine (l03Asked_any f hf n hn F hF true w.heap.size b cap _ (M.at 0 rfl) (HI.out.later M.below)).mono ?_; rintro e W3 ⟨rfl, hb⟩; rw [HC.out]; have M3 := M.call hb; clear M hb)
          | (go_at_call 56; refine (l03Taken_any f n hn F HWF.out m hm w.heap.size b cap _ (M3.at 0 rfl) (HI.out.later M3.below)).mono ?_; rintro e W4 ⟨rfl, hb⟩; rw [HT.out]; have M4 := M3.call hb; clear M3 hb)
          | (at_builtin; refine wpList_append_own _ rfl _ _ 34 rfl w.heap.size 69 i0 (.agg #[.int .i16 0, .int .i16 0, .int .i8 0]) 3 6 Tryd.underlying34 hi hz0 hz1 hz2 rfl (by decide) _ _ _ rfl (World.ownsRow_made W4 #[] 0 M4.below.size (Nat.zero_le _) (by simp)) ⟨b, 0, none⟩ n cap (scells ksScarecrow n F).toList rfl ?qc1 ?qc2 ?qc3 ?qc4 ?qc5 ?qc6 ?_))
        case qc1 => exact Slen _ _ _
        case qc2 =>
          intro j u hj
          exact Lib.cell?_alloc_some _ (Snews (by decide) (HI.out.later M4.below) j u hj)
        case qc3 => exact Sone _ _ _
        case qc4 => rw [Nat.zero_add]; unfold maxLen; omega
        case qc5 => rw [Nat.zero_add]; omega
        case qc6 => have := M4.below.size; simp; omega
        intro v' w1 hown hgrow hnil
        (try simp only [Nat.zero_add, List.nil_append] at hown)
        have hnn : v' ≠ .slice none 0 0 := by first | exact hnil | (intro e; have := hnil.1 e; simp at this)
        have hb := (M4.below.alloc M4.below.size (.cells #[] 69)).grown hgrow (by have := M4.below.size; simp; omega) (by intro k hk; simp [Value.ownBlock] at hk; have := M4.below.size; omega)
        obtain ⟨ob, c', rfl, hO⟩ := Sown' (ks := ksScarecrow) hown hnn
        clear hown hgrow hnil hnn
        obtain ⟨cs, hlo, hsz, B, hv⟩ : ∃ cs, w.heap.size ≤ ob ∧ n * ksScarecrow.length ≤ cs.size ∧ Blk w1 ob cs 69 ∧ (∀ i, i < n → ∀ j, j < ksScarecrow.length → cs[i * ksScarecrow.length + j]? = some (sget ksScarecrow F i j)) := by
          rcases hO with h0 | ⟨b9, cs, e9, h1, h2, h3, h4⟩
          · omega
          · cases e9; exact ⟨cs, h1, h2, h3, h4⟩
        have R0 := RowsAre.start hsz hv
        have M5 := Mem.one hb hlo B
        have d0 := (M5.at 0 rfl).cell (i := k * 3) (R0.2 k hkn 0 (by decide))
        have d2 := (M5.at 0 rfl).cell (i := k * 3 + 2) (R0.2 k hkn 2 (by decide))
        have e0 := (M5.at 0 rfl).free (k * 3)
        have e2 := (M5.at 0 rfl).free (k * 3 + 2)
        clear hO hsz hv B hb hi hz0 hz1 hz2 M4
        go_wp2_with fail
        have R1 := (R0.put hkn (j := 0) (by decide) (m : Int)).put hkn (j := 2) (by decide) 0
        have M6 := (M5.set 0 (k * 3) (.int .i16 (m : Int)) rfl _ rfl).set 0 (k * 3 + 2) (.int .i8 0) rfl _ rfl
        go_ret2
        have HSO : SO ksScarecrow 69 w.heap.size _ (some ⟨ob, 0, none⟩) n (moved F (k : Int) (m : Int)) := R1.so hlo (M6.at 0 rfl)
        exact ⟨_, c', rfl, HSO.inS, HSO.sw, M6.below⟩
theorem put_err (A : Nat → Addr) {f : Fd} {n : Nat} {F : Nat → Nat → Int} {i c : Int} (hs : okScares f n F = true) (hp : inB i 0 ((n : Int) - 1) = true) : askErr A (mvCode f n F i c) = freeErr A f F n c := by
  unfold mvCode freeErr
  rw [hp, Bool.and_true]
  cases hcl : isCell f c with
  | true =>
    have hcn : ((c.toNat : Nat) : Int) = c := Int.toNat_of_nonneg (cell_in hcl).1
    rw [ask_ok (fine := true) hs rfl, if_pos rfl]
    unfold takenB standsOk placeErr
    rw [hcn, hcl]
    by_cases hk : f.K c.toNat = 3
    · simp [hk, askErr]
    · cases hfr : freeAt F n c with
      | true => simp [hk, askErr]
      | false => simp [hk, askErr]
  | false =>
    rw [ask_bad (fine := false) hs rfl, if_neg (by decide)]
    unfold standsOk placeErr
    rw [hcl]; rfl
set_option maxRecDepth 100000 in
set_option maxHeartbeats 8000000 in
theorem checkPutting_any (f : Fd) (hf : f.Wf) (n : Nat) (hn : n ≤ 2 ^ 40) (F : Nat → Nat → Int) (hF : WfS ksScarecrow n F) (i : Int) (hib : -9223372036854775808 ≤ i ∧ i ≤ 9223372036854775807) (c : Int) (hcb : -9223372036854775808 ≤ c ∧ c ≤ 9223372036854775807) (b cap : Nat) (hcap : n ≤ cap) (A : Nat → Addr) (w : World) (I : InS w b 0 n ksScarecrow F) (S0 : Sents w A) :
    Calls Tryd.prog 57 #[.agg (fcells f), .slice (some ⟨b, 0, none⟩) n cap, .int .i64 i, .int .i64 c] w fun e w' => e = .returned (askErr A (mvCode f n F i c)) ∧ Below w.heap.size w w' := by
  have HI := Lib.hid I
  have S : Hid (Sents w A) := Lib.hid S0
  clear I S0
  have hif := isIfaceErr
  obtain ⟨hc1, hc2⟩ := hcb
  obtain ⟨hi1, hi2⟩ := hib
  cases hs : okScares f n F with
  | false =>
    have hk : mvCode f n F i c = 1 := by unfold mvCode; rw [ask_no hs, if_neg (by decide)]
    have hc : Hid (askErr A (askCode f n F (allTo 0 (fun _ => isCell f 0))) = errVal (A 1)) := Lib.hid (by rw [ask_no hs]; rfl)
    rw [hk, show askErr A 1 = errVal (A 1) from rfl]
    clear hk hs
    go_enter Tryd.func57, Tryd.ntmps57
    go_upto_region 1 with (fail)
    obtain ⟨W, hW, M⟩ := open1 w (fcells f) 32
    rw [hW]; clear hW
    go_wp2_with (first
      | (refine wpList_load_part rfl 32 _ rfl w.heap.size 0 rfl (fcells f) _ (M.at 0 rfl).whole Tryd.underlying32 rfl (by rw [fcells_size]; exact sizeFd) ?_)
      | (go_at_call 48; refine (checkScares_any f hf n hn F hF b cap hcap 0 (by omega) (fun _ => 0) (fun _ h => absurd h (by omega)) none 0 A _ (HI.out.later M.below) (.inl rfl) (S.out.later M.below)).mono ?_; rintro e W2 ⟨rfl, hb⟩; rw [hc.out]; have M2 := M.call hb; have hv2 := (S.out.later M2.below).v2; clear M hb))
    go_ret
    exact ⟨rfl, M2.below⟩
  | true =>
  have hc : Hid (askErr A (askCode f n F (allTo 0 (fun _ => isCell f 0))) = .nilIface) := Lib.hid (by rw [ask_ok (fine := allTo 0 (fun _ => isCell f 0)) hs rfl]; rfl)
  have hok := (okS_field hs).1
  have HWF := Lib.hid (fun i (hi : i < n) => wfT_row hF hi)
  cases hp : inB i 0 ((n : Int) - 1) with
  | false =>
    have hk : mvCode f n F i c = 2 := by unfold mvCode; rw [hp, Bool.and_false, ask_bad (fine := false) hs rfl, if_neg (by decide)]
    rw [hk, show askErr A 2 = errVal (A 2) from rfl]
    have hor : i < 0 ∨ (0 ≤ i ∧ (n : Int) ≤ i) := by
      have : ¬ (0 ≤ i ∧ i ≤ (n : Int) - 1) := fun h => by rw [inB_iff.2 h] at hp; cases hp
      omega
    clear hk hs hp
    rcases hor with hlow | ⟨hge, hhigh⟩
    · go_enter Tryd.func57, Tryd.ntmps57
      go_upto_region 1 with (fail)
      obtain ⟨W, hW, M⟩ := open1 w (fcells f) 32
      rw [hW]; clear hW
      go_wp2_with (first
        | (refine wpList_load_part rfl 32 _ rfl w.heap.size 0 rfl (fcells f) _ (M.at 0 rfl).whole Tryd.underlying32 rfl (by rw [fcells_size]; exact sizeFd) ?_)
        | (go_at_call 48; refine (checkScares_any f hf n hn F hF b cap hcap 0 (by omega) (fun _ => 0) (fun _ h => absurd h (by omega)) none 0 A _ (HI.out.later M.below) (.inl rfl) (S.out.later M.below)).mono ?_; rintro e W2 ⟨rfl, hb⟩; rw [hc.out]; have M2 := M.call hb; have hv2 := (S.out.later M2.below).v2; clear M hb))
      go_ret
      exact ⟨rfl, M2.below⟩
    · go_enter Tryd.func57, Tryd.ntmps57
      go_upto_region 1 with (fail)
      obtain ⟨W, hW, M⟩ := open1 w (fcells f) 32
      rw [hW]; clear hW
      go_wp2_with (first
        | (refine wpList_load_part rfl 32 _ rfl w.heap.size 0 rfl (fcells f) _ (M.at 0 rfl).whole Tryd.underlying32 rfl (by rw [fcells_size]; exact sizeFd) ?_)
        | (go_at_call 48; refine (checkScares_any f hf n hn F hF b cap hcap 0 (by omega) (fun _ => 0) (fun _ h => absurd h (by omega)) none 0 A _ (HI.out.later M.below) (.inl rfl) (S.out.later M.below)).mono ?_; rintro e W2 ⟨rfl, hb⟩; rw [hc.out]; have M2 := M.call hb; have hv2 := (S.out.later M2.below).v2; clear M hb))
      go_ret
      exact ⟨rfl, M2.below⟩
  | true =>
    rw [put_err A hs hp]
    obtain ⟨er, her⟩ : ∃ er, freeErr A f F n c = er := ⟨_, rfl⟩
    rw [her]
    have HER := Lib.hid her
    have hpp := inB_iff.1 hp
    obtain ⟨g1, g2⟩ : 0 ≤ i ∧ i < (n : Int) := ⟨hpp.1, by omega⟩
    clear her hs hp hpp
    go_enter Tryd.func57, Tryd.ntmps57
    go_upto_region 1 with (fail)
    obtain ⟨W, hW, M⟩ := open1 w (fcells f) 32
    rw [hW]; clear hW
    go_wp2_with (first
      | (refine wpList_load_part rfl 32 _ rfl w.heap.size 0 rfl (fcells f) _ (M.at 0 rfl).whole Tryd.underlying32 rfl (by rw [fcells_size]; exact sizeFd) ?_)
      | (go_at_call 48; refine (checkScares_any f hf n hn F hF b cap hcap 0 (by omega) (fun _ => 0) (fun _ h => absurd h (by omega)) none 0 A _ (HI.out.later M.below) (.inl rfl) (S.out.later M.below)).mono ?_; rintro e W2 ⟨rfl, hb⟩; rw [hc.out]; have M2 := M.call hb; have hv2 := (S.out.later M2.below).v2; clear M hb)
      | (refine wpList_load_part rfl 32 _ rfl w.heap.size 0 rfl (fcells f) _ (M2.at 0 rfl).whole Tryd.underlying32 rfl (by rw [fcells_size]; exact sizeFd) ?_)
      | (go_at_call 97; refine (checkFree_any f hf hok n hn F hF b cap c hc1 hc2 A _ (S.out.later M2.below).two (HI.out.later M2.below)).mono ?_; rintro e W4 ⟨rfl, hb⟩; rw [HER.out]; have M4 := M2.call hb; clear hb))
    go_ret
    exact ⟨rfl, M4.below⟩
set_option maxRecDepth 100000 in
set_option maxHeartbeats 8000000 in
theorem implMoveScare (f : Fd) (hf : f.Wf) (n : Nat) (hn : n ≤ 2 ^ 40) (F : Nat → Nat → Int) (hF : WfS ksScarecrow n F) (i : Int) (hib : -9223372036854775808 ≤ i ∧ i ≤ 9223372036854775807) (c : Int) (hcb : -9223372036854775808 ≤ c ∧ c ≤ 9223372036854775807) (b cap : Nat) (hcap : n ≤ cap) (A : Nat → Addr) (w : World) (I : InS w b 0 n ksScarecrow F) (S0 : Sents w A) :
    Calls Tryd.prog 24 #[.agg (fcells f), .slice (some ⟨b, 0, none⟩) n cap, .int .i64 i, .int .i64 c] w fun e w' => ∃ p c', e = .returned (.tuple #[.slice p (mvN f n F i c) c', .int .i64 (mvCode f n F i c)]) ∧ SV ksScarecrow w.heap.size w'.heap.size w' p (mvN f n F i c) (moved F i c) ∧ SW ksScarecrow 69 w.heap.size w'.heap.size w' p (mvN f n F i c) ∧ Below w.heap.size w w' := by
  have HI := Lib.hid I
  have S : Hid (Sents w A) := Lib.hid S0
  clear I S0
  have hif := isIfaceErr
  have bad : ∀ k : Nat, 1 ≤ k → k ≤ 8 → mvCode f n F i c = k → mvN f n F i c = 0 → Calls Tryd.prog 24 #[.agg (fcells f), .slice (some ⟨b, 0, none⟩) n cap, .int .i64 i, .int .i64 c] w fun e w' => ∃ p c', e = .returned (.tuple #[.slice p (mvN f n F i c) c', .int .i64 (mvCode f n F i c)]) ∧ SV ksScarecrow w.heap.size w'.heap.size w' p (mvN f n F i c) (moved F i c) ∧ SW ksScarecrow 69 w.heap.size w'.heap.size w' p (mvN f n F i c) ∧ Below w.heap.size w w' := by
    intro k h1 h8 hk hN
    have HE : Hid (askErr A (mvCode f n F i c) = errVal (A k)) := Lib.hid (by rw [hk]; unfold askErr; rw [if_neg (by omega), Int.toNat_natCast])
    rw [hN, hk]
    clear hN hk
    go_enter Tryd.func24, Tryd.ntmps24
    go_upto_region 1 with (fail)
    obtain ⟨W, hW, M⟩ := open1 w (fcells f) 32
    rw [hW]; clear hW
    go_wp2_with (first
      | (refine wpList_load_part rfl 32 _ rfl w.heap.size 0 rfl (fcells f) _ (M.at 0 rfl).whole Tryd.underlying32 rfl (by rw [fcells_size]; exact sizeFd) ?_)
      | (go_at_call 57; refine (checkPutting_any f hf n hn F hF i hib c hcb b cap hcap A _ (HI.out.later M.below) (S.out.later M.below)).mono ?_; rintro e W2 ⟨rfl, hb⟩; rw [HE.out]; have M2 := M.call hb; clear M hb)
      | (go_at_call 49; refine (codeOf_err A k h1 h8 _ (S.out.later M2.below)).mono ?_; rintro e W3 ⟨rfl, rfl⟩))
    go_ret2
    exact ⟨_, _, rfl, .inl rfl, .inl rfl, M2.below⟩
  cases hs : okScares f n F with
  | false => exact bad 1 (by omega) (by omega) (by unfold mvCode; rw [ask_no hs, if_neg (by decide)]; rfl) (by unfold mvN; rw [ask_no hs, if_neg (by decide)])
  | true =>
  cases hfi : (isCell f c && inB i 0 ((n : Int) - 1)) with
  | false => exact bad 2 (by omega) (by omega) (by unfold mvCode; rw [hfi, ask_bad (fine := false) hs rfl, if_neg (by decide)]; rfl) (by unfold mvN; rw [hfi, ask_bad (fine := false) hs rfl, if_neg (by decide)])
  | true =>
  cases ht : takenB f n F c.toNat with
  | true => exact bad 4 (by omega) (by omega) (by unfold mvCode; rw [hfi, ask_ok (fine := true) hs rfl, if_pos rfl, ht]; rfl) (by unfold mvN; rw [hfi, ask_ok (fine := true) hs rfl, if_pos rfl, ht]; rfl)
  | false =>
    have hk0 : mvCode f n F i c = 0 := by unfold mvCode; rw [hfi, ask_ok (fine := true) hs rfl, if_pos rfl, ht]; rfl
    have hN : mvN f n F i c = n := by unfold mvN; rw [hfi, ask_ok (fine := true) hs rfl, if_pos rfl, ht]; rfl
    have HE : Hid (askErr A (mvCode f n F i c) = .nilIface) := Lib.hid (by rw [hk0]; rfl)
    rw [hN, hk0]
    obtain ⟨hcl, hp⟩ : isCell f c = true ∧ inB i 0 ((n : Int) - 1) = true := by simpa using hfi
    have hin := cell_in hcl
    have hpp := inB_iff.1 hp
    have hib2 := hib
    obtain ⟨k, rfl⟩ : ∃ k : Nat, i = k := ⟨i.toNat, by omega⟩
    have hkn : k < n := by omega
    have hsh := (okS_field hs).2.1 k hkn
    have hpw : 1 ≤ F k 1 ∧ F k 1 ≤ 1000 := by
      unfold shapeOk at hsh; simp only [Bool.and_eq_true] at hsh; exact inB_iff.1 hsh.1.2
    obtain ⟨x, hx⟩ : ∃ x, F k 1 = x := ⟨_, rfl⟩
    have HX := Lib.hid hx
    rw [hx] at hpw
    clear bad hs hfi ht hk0 hN hcl hp hsh hx
    obtain ⟨hw1, hw2⟩ := hpw
    have HIN := Lib.hid hin
    go_enter Tryd.func24, Tryd.ntmps24
    go_upto_region 1 with (fail)
    obtain ⟨W, hW, M⟩ := open1 w (fcells f) 32
    rw [hW]; clear hW
    go_upto_region 5 with (first
      | (refine wpList_load_part rfl 32 _ rfl w.heap.size 0 rfl (fcells f) _ (M.at 0 rfl).whole Tryd.underlying32 rfl (by rw [fcells_size]; exact sizeFd) ?_)
      | (go_at_call 57; refine (checkPutting_any f hf n hn F hF _ hib2 c hcb b cap hcap A _ (HI.out.later M.below) (S.out.later M.below)).mono ?_; rintro e W2 ⟨rfl, hb⟩; rw [HE.out]; have M2 := M.call hb; clear M hb)
      | (go_at_call 58; refine (Cclone_any n hn F b cap _ (HI.out.later M2.below)).mono ?_; rintro e W4 ⟨ob, c', rfl, hO, hb⟩; have M4 := M2.call hb; have hbs := M2.below.size; have HO := Lib.hid (hO.weak hbs); clear hb hO))
    obtain ⟨cs, hlo, hsz, B, hv⟩ : ∃ cs, w.heap.size ≤ ob ∧ n * ksScarecrow.length ≤ cs.size ∧ Blk W4 ob cs 69 ∧ (∀ i, i < n → ∀ j, j < ksScarecrow.length → cs[i * ksScarecrow.length + j]? = some (sget ksScarecrow F i j)) := by
      rcases HO.out with rfl | ⟨b9, cs, e9, h1, h2, h3, h4⟩
      · exact absurd hkn (Nat.not_lt_zero _)
      · cases e9; exact ⟨cs, h1, h2, h3, h4⟩
    have R0 := RowsAre.start hsz hv
    have M5 := Mem.one M4.below hlo B
    have q0 := Lib.hid (R0.2 k hkn 0 (by decide))
    have q1 := Lib.hid (R0.2 k hkn 1 (by decide))
    have q2 := Lib.hid (R0.2 k hkn 2 (by decide))
    have cp : W4.cell? ⟨b, k * 3 + 1, none⟩ = some (.int .i16 x) := by
      have h := (HI.out.later M4.below) k hkn 1 _ (by rw [Array.getElem?_toList]; exact srow_get ksScarecrow F k 1 (by decide))
      rw [Nat.zero_add] at h
      rw [← HX.out]; exact h
    clear hsz hv B HO M2 M4 hbs
    go_wp2_with (go_at_call 59; refine (newScare_any c x HIN.out ⟨hw1, hw2⟩ _).mono ?_; rintro e W6 ⟨rfl, hb6⟩; have M6 := M5.call hb6; have d0 := (M6.at 0 rfl).cell (i := k * 3) q0.out; have d1 := (M6.at 0 rfl).cell (i := k * 3 + 1) q1.out; have d2 := (M6.at 0 rfl).cell (i := k * 3 + 2) q2.out; have e0 := (M6.at 0 rfl).free (k * 3); have e1 := (M6.at 0 rfl).free (k * 3 + 1); have e2 := (M6.at 0 rfl).free (k * 3 + 2); clear M5 hb6 cp)
    have R1 := (R0.put hkn (j := 0) (by decide) c).put hkn (j := 2) (by decide) 0
    have M7 := M6.cells 0 (k * 3) [.int .i16 c, .int .i16 x, .int .i8 0] rfl _ ((((M6.at 0 rfl).set (k * 3) _).set (k * 3 + 1) _).set (k * 3 + 2) _)
    have hmid : ((cs.setIfInBounds (k * 3) (.int .i16 c)).setIfInBounds (k * 3 + 1) (.int .i16 x)) = cs.setIfInBounds (k * 3) (.int .i16 c) := set_same3 (by
      rw [Array.getElem?_setIfInBounds, if_neg (by omega)]
      have h := q1.out
      rw [← HX.out]; exact h)
    rw [hmid] at M7
    go_ret2
    have HSO : SO ksScarecrow 69 w.heap.size _ (some ⟨ob, 0, none⟩) n (moved F (k : Int) c) := R1.so hlo (M7.at 0 rfl)
    exact ⟨_, c', rfl, HSO.inS, HSO.sw, M7.below⟩
end Go.Proofs.YtpplakfmdjajiaaDoor
