/-
  The program's checks of a field, a power and a least fear.
-/
import Derived.Test.YteclngooblafoaaDoorFearO
namespace Go.Proofs.YteclngooblafoaaDoor
open Go Go.RowKit

def gmCode (f : Fd) (q : Bool) : Int := if okF f then (if q then 0 else 2) else 1
theorem gm_no {f : Fd} {q : Bool} (h : okF f = false) : gmCode f q = 1 := by unfold gmCode; rw [h]; rfl
theorem gm_bad {f : Fd} {q : Bool} (h : okF f = true) (h2 : q = false) : gmCode f q = 2 := by unfold gmCode; rw [h, h2]; rfl
theorem gm_ok {f : Fd} {q : Bool} (h : okF f = true) (h2 : q = true) : gmCode f q = 0 := by unfold gmCode; rw [h, h2]; rfl
theorem gm_cases (f : Fd) (q : Bool) : (gmCode f q = 0 ∧ okF f = true ∧ q = true) ∨ (gmCode f q = 1 ∧ okF f = false) ∨ (gmCode f q = 2 ∧ okF f = true ∧ q = false) := by
  unfold gmCode
  cases okF f <;> cases q <;> simp
set_option maxRecDepth 100000 in
theorem validScares_nil (f : Fd) (hf : f.Wf) (w : World) : Calls Tryd.prog 78 #[.agg (fcells f), .slice none 0 0] w fun e w' => e = .returned (.bool (okF f)) ∧ Below w.heap.size w w' := by
  cases hok : okF f with
  | false =>
    go_enter Tryd.func78, Tryd.ntmps78
    go_upto_region 1 with (fail)
    obtain ⟨W, hW, M⟩ := open1 w (fcells f) 33
    rw [hW]; clear hW
    go_wp2_with (first
      | (refine wpList_load_part rfl 33 _ rfl w.heap.size 0 rfl (fcells f) _ (M.at 0 rfl).whole Tryd.underlying33 rfl (by rw [fcells_size]; exact sizeFd) ?_)
      | (go_at_call 89; refine (validField_any f hf _).mono ?_; rintro e W2 ⟨rfl, hb⟩; rw [hok]; have M2 := M.call hb))
    go_ret
    exact ⟨rfl, M2.below⟩
  | true =>
    go_enter Tryd.func78, Tryd.ntmps78
    go_upto_region 1 with (fail)
    obtain ⟨W, hW, M⟩ := open1 w (fcells f) 33
    rw [hW]; clear hW
    go_wp2_with (first
      | (refine wpList_load_part rfl 33 _ rfl w.heap.size 0 rfl (fcells f) _ (M.at 0 rfl).whole Tryd.underlying33 rfl (by rw [fcells_size]; exact sizeFd) ?_)
      | (go_at_call 89; refine (validField_any f hf _).mono ?_; rintro e W2 ⟨rfl, hb⟩; rw [hok]; have M2 := M.call hb))
    refine wp_loop_rounds 1 ?_
    rw [rounds_succ]
    go_wp2_with fail
    go_ret
    exact ⟨rfl, M2.below⟩
set_option maxRecDepth 100000 in
set_option maxHeartbeats 2000000 in
theorem checkScares_nil (f : Fd) (hf : f.Wf) (m : Nat) (hm : m ≤ 1000) (g : Nat → Int) (hg : ∀ i, i < m → -9223372036854775808 ≤ g i ∧ g i ≤ 9223372036854775807) (q : Option Addr) (c : Nat) (A : Nat → Addr) (w : World) (J : InO w q m g) (S0 : Sents w A) :
    Calls Tryd.prog 62 #[.agg (fcells f), .slice none 0 0, .slice q m c] w fun e w' => e = .returned (askErr A (gmCode f (allTo m (fun i => isCell f (g i))))) ∧ Below w.heap.size w w' := by
  have HJ := Lib.hid J
  have S : Hid (Sents w A) := Lib.hid S0
  clear J S0
  have hif := isIfaceErr
  cases hok : okF f with
  | false =>
    rw [gm_no hok, show askErr A 1 = errVal (A 1) from rfl]
    have HOK := Lib.hid hok
    clear hok
    go_enter Tryd.func62, Tryd.ntmps62
    go_upto_region 1 with (fail)
    obtain ⟨W, hW, M⟩ := open1 w (fcells f) 33
    rw [hW]; clear hW
    go_wp2_with (first
      | (refine wpList_load_part rfl 33 _ rfl w.heap.size 0 rfl (fcells f) _ (M.at 0 rfl).whole Tryd.underlying33 rfl (by rw [fcells_size]; exact sizeFd) ?_)
      | (go_at_call 78; refine (validScares_nil f hf _).mono ?_; rintro e W2 ⟨rfl, hb⟩; rw [HOK.out]; have M2 := M.call hb; have hv1 := (S.out.later M2.below).v1; clear M hb))
    go_ret
    exact ⟨rfl, M2.below⟩
  | true =>
    have hk : Hid (errIf A 2 (allTo m (fun i => isCell f (g i))) = askErr A (gmCode f (allTo m (fun i => isCell f (g i))))) := Lib.hid (by
      cases hq : (allTo m (fun i => isCell f (g i))) with
      | false => rw [gm_bad hok rfl]; rfl
      | true => rw [gm_ok hok rfl]; rfl)
    rw [← hk.out]
    clear hk
    obtain ⟨ev, hev⟩ : ∃ ev, errIf A 2 (allTo m (fun i => isCell f (g i))) = ev := ⟨_, rfl⟩
    have HEV := Lib.hid hev
    have HOK := Lib.hid hok
    rw [hev]
    clear hev
    go_enter Tryd.func62, Tryd.ntmps62
    go_upto_region 1 with (fail)
    obtain ⟨W, hW, M⟩ := open1 w (fcells f) 33
    rw [hW]; clear hW
    go_upto_region 3 with (first
      | (refine wpList_load_part rfl 33 _ rfl w.heap.size 0 rfl (fcells f) _ (M.at 0 rfl).whole Tryd.underlying33 rfl (by rw [fcells_size]; exact sizeFd) ?_)
      | (go_at_call 78; refine (validScares_nil f hf _).mono ?_; rintro e W2 ⟨rfl, hb⟩; rw [HOK.out]; have M2 := M.call hb; have hv1 := (S.out.later M2.below).v1; clear M hb))
    go_wp2_with (first
      | (refine wpList_load_part rfl 33 _ rfl w.heap.size 0 rfl (fcells f) _ (M2.at 0 rfl).whole Tryd.underlying33 rfl (by rw [fcells_size]; exact sizeFd) ?_)
      | (go_at_call 79; refine (checkCells_O f hf hok m (by omega) g hg A q c _ (HJ.out.later M2.below) (S.out.later M2.below)).mono ?_; rintro e W3 ⟨rfl, hb⟩; rw [HEV.out]; have M3 := M2.call hb; clear M2 hb))
    go_ret
    exact ⟨rfl, M3.below⟩
set_option maxRecDepth 100000 in
set_option maxHeartbeats 2000000 in
theorem checkSafety_nil (f : Fd) (hf : f.Wf) (y : Int) (m : Nat) (hm : m ≤ 1000) (g : Nat → Int) (hg : ∀ i, i < m → -9223372036854775808 ≤ g i ∧ g i ≤ 9223372036854775807) (q : Option Addr) (c : Nat) (A : Nat → Addr) (w : World) (J : InO w q m g) (S0 : Sents w A) :
    Calls Tryd.prog 36 #[.agg (fcells f), .slice none 0 0, .int .i64 y, .slice q m c] w fun e w' => e = .returned (askErr A (gmCode f ((allTo m (fun i => isCell f (g i))) && inB y 1 1000))) ∧ Below w.heap.size w w' := by
  have HJ := Lib.hid J
  have S : Hid (Sents w A) := Lib.hid S0
  clear J S0
  have hif := isIfaceErr
  obtain ⟨q1, hq1⟩ : ∃ q1, (allTo m (fun i => isCell f (g i))) = q1 := ⟨_, rfl⟩
  obtain ⟨q2, hq2⟩ : ∃ q2, inB y 1 1000 = q2 := ⟨_, rfl⟩
  rw [hq1, hq2]
  have HQ2 := Lib.hid hq2
  rcases gm_cases f q1 with ⟨h0, hok, hh⟩ | ⟨h0, hok⟩ | ⟨h0, hok, hh⟩
  rotate_left
  · rw [gm_no hok, show askErr A 1 = errVal (A 1) from rfl]
    have HE : Hid (askErr A (gmCode f (allTo m (fun i => isCell f (g i)))) = errVal (A 1)) := Lib.hid (by rw [hq1, h0]; rfl)
    clear h0 hok hq1 hq2
    go_enter Tryd.func36, Tryd.ntmps36
    go_upto_region 1 with (fail)
    obtain ⟨W, hW, M⟩ := open1 w (fcells f) 33
    rw [hW]; clear hW
    go_wp2_with (first
      | (refine wpList_load_part rfl 33 _ rfl w.heap.size 0 rfl (fcells f) _ (M.at 0 rfl).whole Tryd.underlying33 rfl (by rw [fcells_size]; exact sizeFd) ?_)
      | (go_at_call 62; refine (checkScares_nil f hf m hm g hg q c A _ (HJ.out.later M.below) (S.out.later M.below)).mono ?_; rintro e W2 ⟨rfl, hb⟩; rw [HE.out]; have M2 := M.call hb; have hv2 := (S.out.later M2.below).v2; clear M hb))
    go_ret
    exact ⟨rfl, M2.below⟩
  · subst hh
    rw [gm_bad hok (Bool.false_and _), show askErr A 2 = errVal (A 2) from rfl]
    have HE : Hid (askErr A (gmCode f (allTo m (fun i => isCell f (g i)))) = errVal (A 2)) := Lib.hid (by rw [hq1, h0]; rfl)
    clear h0 hok hq1 hq2
    go_enter Tryd.func36, Tryd.ntmps36
    go_upto_region 1 with (fail)
    obtain ⟨W, hW, M⟩ := open1 w (fcells f) 33
    rw [hW]; clear hW
    go_wp2_with (first
      | (refine wpList_load_part rfl 33 _ rfl w.heap.size 0 rfl (fcells f) _ (M.at 0 rfl).whole Tryd.underlying33 rfl (by rw [fcells_size]; exact sizeFd) ?_)
      | (go_at_call 62; refine (checkScares_nil f hf m hm g hg q c A _ (HJ.out.later M.below) (S.out.later M.below)).mono ?_; rintro e W2 ⟨rfl, hb⟩; rw [HE.out]; have M2 := M.call hb; have hv2 := (S.out.later M2.below).v2; clear M hb))
    go_ret
    exact ⟨rfl, M2.below⟩
  subst hh
  rw [Bool.true_and]
  have HE : Hid (askErr A (gmCode f (allTo m (fun i => isCell f (g i)))) = .nilIface) := Lib.hid (by rw [hq1, h0]; rfl)
  clear h0 hq1 hq2
  cases q2 with
  | false =>
    rw [gm_bad hok rfl, show askErr A 2 = errVal (A 2) from rfl]
    clear hok
    go_enter Tryd.func36, Tryd.ntmps36
    go_upto_region 1 with (fail)
    obtain ⟨W, hW, M⟩ := open1 w (fcells f) 33
    rw [hW]; clear hW
    go_wp2_with (first
      | (refine wpList_load_part rfl 33 _ rfl w.heap.size 0 rfl (fcells f) _ (M.at 0 rfl).whole Tryd.underlying33 rfl (by rw [fcells_size]; exact sizeFd) ?_)
      | (go_at_call 62; refine (checkScares_nil f hf m hm g hg q c A _ (HJ.out.later M.below) (S.out.later M.below)).mono ?_; rintro e W2 ⟨rfl, hb⟩; rw [HE.out]; have M2 := M.call hb; have hv2 := (S.out.later M2.below).v2; clear M hb)
      | (go_at_call 48; refine (isPower_ok _ _).mono ?_; rintro e w3 ⟨rfl, rfl⟩; rw [HQ2.out]))
    go_ret
    exact ⟨rfl, M2.below⟩
  | true =>
    rw [gm_ok hok rfl, show askErr A 0 = .nilIface from rfl]
    clear hok
    go_enter Tryd.func36, Tryd.ntmps36
    go_upto_region 1 with (fail)
    obtain ⟨W, hW, M⟩ := open1 w (fcells f) 33
    rw [hW]; clear hW
    go_wp2_with (first
      | (refine wpList_load_part rfl 33 _ rfl w.heap.size 0 rfl (fcells f) _ (M.at 0 rfl).whole Tryd.underlying33 rfl (by rw [fcells_size]; exact sizeFd) ?_)
      | (go_at_call 62; refine (checkScares_nil f hf m hm g hg q c A _ (HJ.out.later M.below) (S.out.later M.below)).mono ?_; rintro e W2 ⟨rfl, hb⟩; rw [HE.out]; have M2 := M.call hb; have hv2 := (S.out.later M2.below).v2; clear M hb)
      | (go_at_call 48; refine (isPower_ok _ _).mono ?_; rintro e w3 ⟨rfl, rfl⟩; rw [HQ2.out]))
    go_ret
    exact ⟨rfl, M2.below⟩
set_option maxRecDepth 100000 in
set_option maxHeartbeats 2000000 in
theorem checkCovering_any (f : Fd) (hf : f.Wf) (x y : Int) (m : Nat) (hm : m ≤ 1000) (g : Nat → Int) (hg : ∀ i, i < m → -9223372036854775808 ≤ g i ∧ g i ≤ 9223372036854775807) (q : Option Addr) (c : Nat) (A : Nat → Addr) (w : World) (J : InO w q m g) (S0 : Sents w A) :
    Calls Tryd.prog 27 #[.agg (fcells f), .int .i64 x, .int .i64 y, .slice q m c] w fun e w' => e = .returned (askErr A (gmCode f ((allTo m (fun i => isCell f (g i))) && inB y 1 1000 && inB x 1 1000))) ∧ Below w.heap.size w w' := by
  have HJ := Lib.hid J
  have S : Hid (Sents w A) := Lib.hid S0
  clear J S0
  have hif := isIfaceErr
  obtain ⟨q1, hq1⟩ : ∃ q1, ((allTo m (fun i => isCell f (g i))) && inB y 1 1000) = q1 := ⟨_, rfl⟩
  obtain ⟨q2, hq2⟩ : ∃ q2, inB x 1 1000 = q2 := ⟨_, rfl⟩
  rw [hq1, hq2]
  have HQ2 := Lib.hid hq2
  rcases gm_cases f q1 with ⟨h0, hok, hh⟩ | ⟨h0, hok⟩ | ⟨h0, hok, hh⟩
  rotate_left
  · rw [gm_no hok, show askErr A 1 = errVal (A 1) from rfl]
    have HE : Hid (askErr A (gmCode f ((allTo m (fun i => isCell f (g i))) && inB y 1 1000)) = errVal (A 1)) := Lib.hid (by rw [hq1, h0]; rfl)
    clear h0 hok hq1 hq2
    go_enter Tryd.func27, Tryd.ntmps27
    go_upto_region 1 with (fail)
    obtain ⟨W, hW, M⟩ := open1 w (fcells f) 33
    rw [hW]; clear hW
    go_wp2_with (first
      | (refine wpList_load_part rfl 33 _ rfl w.heap.size 0 rfl (fcells f) _ (M.at 0 rfl).whole Tryd.underlying33 rfl (by rw [fcells_size]; exact sizeFd) ?_)
      | (go_at_call 36; refine (checkSafety_nil f hf y m hm g hg q c A _ (HJ.out.later M.below) (S.out.later M.below)).mono ?_; rintro e W2 ⟨rfl, hb⟩; rw [HE.out]; have M2 := M.call hb; have hv2 := (S.out.later M2.below).v2; clear M hb))
    go_ret
    exact ⟨rfl, M2.below⟩
  · subst hh
    rw [gm_bad hok (Bool.false_and _), show askErr A 2 = errVal (A 2) from rfl]
    have HE : Hid (askErr A (gmCode f ((allTo m (fun i => isCell f (g i))) && inB y 1 1000)) = errVal (A 2)) := Lib.hid (by rw [hq1, h0]; rfl)
    clear h0 hok hq1 hq2
    go_enter Tryd.func27, Tryd.ntmps27
    go_upto_region 1 with (fail)
    obtain ⟨W, hW, M⟩ := open1 w (fcells f) 33
    rw [hW]; clear hW
    go_wp2_with (first
      | (refine wpList_load_part rfl 33 _ rfl w.heap.size 0 rfl (fcells f) _ (M.at 0 rfl).whole Tryd.underlying33 rfl (by rw [fcells_size]; exact sizeFd) ?_)
      | (go_at_call 36; refine (checkSafety_nil f hf y m hm g hg q c A _ (HJ.out.later M.below) (S.out.later M.below)).mono ?_; rintro e W2 ⟨rfl, hb⟩; rw [HE.out]; have M2 := M.call hb; have hv2 := (S.out.later M2.below).v2; clear M hb))
    go_ret
    exact ⟨rfl, M2.below⟩
  subst hh
  rw [Bool.true_and]
  have HE : Hid (askErr A (gmCode f ((allTo m (fun i => isCell f (g i))) && inB y 1 1000)) = .nilIface) := Lib.hid (by rw [hq1, h0]; rfl)
  clear h0 hq1 hq2
  cases q2 with
  | false =>
    rw [gm_bad hok rfl, show askErr A 2 = errVal (A 2) from rfl]
    clear hok
    go_enter Tryd.func27, Tryd.ntmps27
    go_upto_region 1 with (fail)
    obtain ⟨W, hW, M⟩ := open1 w (fcells f) 33
    rw [hW]; clear hW
    go_wp2_with (first
      | (refine wpList_load_part rfl 33 _ rfl w.heap.size 0 rfl (fcells f) _ (M.at 0 rfl).whole Tryd.underlying33 rfl (by rw [fcells_size]; exact sizeFd) ?_)
      | (go_at_call 36; refine (checkSafety_nil f hf y m hm g hg q c A _ (HJ.out.later M.below) (S.out.later M.below)).mono ?_; rintro e W2 ⟨rfl, hb⟩; rw [HE.out]; have M2 := M.call hb; have hv2 := (S.out.later M2.below).v2; clear M hb)
      | (go_at_call 48; refine (isPower_ok _ _).mono ?_; rintro e w3 ⟨rfl, rfl⟩; rw [HQ2.out]))
    go_ret
    exact ⟨rfl, M2.below⟩
  | true =>
    rw [gm_ok hok rfl, show askErr A 0 = .nilIface from rfl]
    clear hok
    go_enter Tryd.func27, Tryd.ntmps27
    go_upto_region 1 with (fail)
    obtain ⟨W, hW, M⟩ := open1 w (fcells f) 33
    rw [hW]; clear hW
    go_wp2_with (first
      | (refine wpList_load_part rfl 33 _ rfl w.heap.size 0 rfl (fcells f) _ (M.at 0 rfl).whole Tryd.underlying33 rfl (by rw [fcells_size]; exact sizeFd) ?_)
      | (go_at_call 36; refine (checkSafety_nil f hf y m hm g hg q c A _ (HJ.out.later M.below) (S.out.later M.below)).mono ?_; rintro e W2 ⟨rfl, hb⟩; rw [HE.out]; have M2 := M.call hb; have hv2 := (S.out.later M2.below).v2; clear M hb)
      | (go_at_call 48; refine (isPower_ok _ _).mono ?_; rintro e w3 ⟨rfl, rfl⟩; rw [HQ2.out]))
    go_ret
    exact ⟨rfl, M2.below⟩
end Go.Proofs.YteclngooblafoaaDoor
