/-
  Amounts of money, claims: the model's test, the program's.
  The losses for claims: the program's lossesFor.
-/
import Derived.Test.YtgnfpmpjmliegaaDoorBy
import Derived.Test.YtgnfpmpjmliegaaDoorInts
import Derived.Test.YtgnfpmpjmliegaaDoorByI
namespace Go.Proofs.YtgnfpmpjmliegaaDoor
section
open Go Go.RowKit

def moneyL (z : Nat) (c : Nat → Int) : Bool := allTo z (fun i => inB (c i) 0 1000000)
def claimOk (z : Nat) (c : Nat → Int) : Bool := decide (z = 10) && moneyL z c
def claimCode (f g : Fd) (o : Nat → Int) (z : Nat) (c : Nat → Int) : Int := if ownedCode f g o = 0 then (if claimOk z c = true then 0 else 2) else ownedCode f g o
theorem money_succ {c : Nat → Int} {k : Nat} (h : ∀ i, i < k → inB (c i) 0 1000000 = true) (hk : inB (c k) 0 1000000 = true) : ∀ i, i < k + 1 → inB (c i) 0 1000000 = true := fun i hi => by
  by_cases e : i = k
  · subst e; exact hk
  · exact h i (by omega)
theorem l06Money_any (n : Int) (w : World) : Calls Tryd.prog 34 #[.int .i64 n] w fun e w' => e = .returned (.bool (inB n 0 1000000)) ∧ w = w' := by
  go_enter Tryd.func34, Tryd.ntmps34
  go_wp2_with (go_at_call 47; refine (l00In_any _ _ _ _).mono ?_; rintro e w' ⟨rfl, rfl⟩)
  go_ret
  exact ⟨rfl, rfl⟩
set_option maxHeartbeats 2000000 in
theorem l06Amounts_any (z : Nat) (hz : z ≤ 2 ^ 40) (c : Nat → Int) (m : Int) (b cp : Nat) (w : World) (I : InI w b 0 z c) : Calls Tryd.prog 23 #[.slice (some ⟨b, 0, none⟩) z cp, .int .i64 m] w fun e w' => e = .returned (.bool (moneyL z c && (inB m 0 1000000 && decide (z ≤ 100)))) ∧ w = w' := by
  have HI := Lib.hid I
  clear I
  obtain ⟨q, hq0⟩ : ∃ q, inB m 0 1000000 = q := ⟨_, rfl⟩
  rw [hq0]
  have HQ := Lib.hid hq0
  clear hq0
  go_enter Tryd.func23, Tryd.ntmps23
  go_wp2_with fail
  go_loop [5] (fun i => ∃ k : Nat, k ≤ z ∧ i = .int .i64 k ∧ Hid (∀ i, i < k → inB (c i) 0 1000000 = true)) (fun i => z - (intOf i).toNat)
  case atStart => exact ⟨0, by omega, rfl, Lib.hid (fun i hi => by omega)⟩
  case round =>
    obtain ⟨k, hk, rfl, hall⟩ := hrel
    by_cases hlt : k < z
    · have c0 := HI.out k hlt
      rw [Nat.zero_add] at c0
      cases hv : inB (c k) 0 1000000 with
      | true =>
        go_wp2_with (go_at_call 34; refine (l06Money_any _ _).mono ?_; rintro e w' ⟨rfl, rfl⟩; rw [hv])
        go_round
        case rel => exact ⟨k + 1, by omega, by go_num, Lib.hid (money_succ hall.out hv)⟩
        case measure => simp [intOf]; omega
      | false =>
        have hs : Hid (moneyL z c = false) := Lib.hid (allTo_false hlt hv)
        go_wp2_with (go_at_call 34; refine (l06Money_any _ _).mono ?_; rintro e w' ⟨rfl, rfl⟩; rw [hv])
        go_ret
        exact ⟨by rw [hs.out, Bool.false_and]; rfl, rfl⟩
    · obtain rfl : k = z := by omega
      have hs : Hid (moneyL k c = true) := Lib.hid (allTo_iff.2 hall.out)
      cases q with
      | false =>
        go_wp2_with (go_at_call 34; refine (l06Money_any _ _).mono ?_; rintro e w' ⟨rfl, rfl⟩; rw [HQ.out])
        go_ret
        exact ⟨by rw [hs.out]; rfl, rfl⟩
      | true =>
        have h2 := Lib.hid (show decide (k ≤ 100) = decide ((k : Int) ≤ 100) from decide_eq_decide.2 (by omega))
        go_wp2_with (go_at_call 34; refine (l06Money_any _ _).mono ?_; rintro e w' ⟨rfl, rfl⟩; rw [HQ.out])
        go_ret
        exact ⟨by rw [hs.out, h2.out]; rfl, rfl⟩
theorem isMoney_any (n : Int) (w : World) : Calls Tryd.prog 28 #[.int .i64 n] w fun e w' => e = .returned (.bool (inB n 0 1000000)) ∧ w = w' := by
  by_cases h1 : 0 ≤ n
  · have hr : inB n 0 1000000 = decide (n ≤ 1000000) := by unfold inB; rw [decide_eq_true h1, Bool.true_and]
    rw [hr]; clear hr
    go_enter Tryd.func28, Tryd.ntmps28
    go_wp2_with fail
    go_ret
    exact ⟨rfl, rfl⟩
  · rw [inB_false (.inl (by omega))]
    go_enter Tryd.func28, Tryd.ntmps28
    go_wp2_with fail
    go_ret
    exact ⟨rfl, rfl⟩
theorem money_closure (n : Int) (w : World) : Calls Tryd.prog 27 #[.int .i64 n] w fun e w' => e = .returned (.bool (!inB n 0 1000000)) ∧ w = w' := by
  go_enter Tryd.func27, Tryd.ntmps27
  go_wp2_with (go_at_call 28; refine (isMoney_any _ _).mono ?_; rintro e w' ⟨rfl, rfl⟩)
  go_ret
  exact ⟨rfl, rfl⟩
set_option maxHeartbeats 2000000 in
theorem moneyIndex (z : Nat) (hz : z ≤ 2 ^ 40) (c : Nat → Int) (b cp : Nat) (w : World) (I : InI w b 0 z c) :
    Calls Tryd.prog 39 #[.slice (some ⟨b, 0, none⟩) z cp, .func (.func 27) #[] #[]] w fun e w' => ∃ r : Int, e = .returned (.int .i64 r) ∧ decide (0 ≤ r) = !moneyL z c ∧ w = w' := by
  have HI := Lib.hid I
  clear I
  go_enter Tryd.func39, Tryd.ntmps39
  go_wp2_with fail
  go_loop [8] (fun i => ∃ k : Nat, k ≤ z ∧ i = .int .i64 k ∧ Hid (∀ i, i < k → inB (c i) 0 1000000 = true)) (fun i => z - (intOf i).toNat)
  case atStart => exact ⟨0, by omega, rfl, Lib.hid (fun i hi => by omega)⟩
  case round =>
    obtain ⟨k, hk, rfl, hall⟩ := hrel
    by_cases hlt : k < z
    · have c0 := HI.out k hlt
      rw [Nat.zero_add] at c0
      cases hv : inB (c k) 0 1000000 with
      | true =>
        go_wp2_with (go_at_call 27; refine (money_closure _ _).mono ?_; rintro e w' ⟨rfl, rfl⟩; rw [hv])
        go_round
        case rel => exact ⟨k + 1, by omega, by go_num, Lib.hid (money_succ hall.out hv)⟩
        case measure => simp [intOf]; omega
      | false =>
        have hs : Hid (moneyL z c = false) := Lib.hid (allTo_false hlt hv)
        go_wp2_with (go_at_call 27; refine (money_closure _ _).mono ?_; rintro e w' ⟨rfl, rfl⟩; rw [hv])
        go_ret
        exact ⟨(k : Int), rfl, by rw [hs.out, decide_eq_true (by omega)]; rfl, rfl⟩
    · obtain rfl : k = z := by omega
      have hs : Hid (moneyL k c = true) := Lib.hid (allTo_iff.2 hall.out)
      go_wp2_with fail
      go_ret
      exact ⟨-1, rfl, by rw [hs.out]; rfl, rfl⟩
theorem moneyContains (z : Nat) (hz : z ≤ 2 ^ 40) (c : Nat → Int) (b cp : Nat) (w : World) (I : InI w b 0 z c) :
    Calls Tryd.prog 26 #[.slice (some ⟨b, 0, none⟩) z cp, .func (.func 27) #[] #[]] w fun e w' => e = .returned (.bool (!moneyL z c)) ∧ w = w' := by
  go_enter Tryd.func26, Tryd.ntmps26
  go_wp2_with (go_at_call 39; refine (moneyIndex z hz c b cp _ I).mono ?_; rintro e w2 ⟨r, rfl, hr, rfl⟩; have HR := Lib.hid hr; clear hr)
  go_ret
  exact ⟨by rw [← HR.out]; rfl, rfl⟩
theorem claim_bad {f g : Fd} {o : Nat → Int} {z : Nat} {c : Nat → Int} (h : ownedCode f g o ≠ 0) : claimCode f g o z c = ownedCode f g o := if_neg h
theorem claim_ok {f g : Fd} {o : Nat → Int} {z : Nat} {c : Nat → Int} (h : ownedCode f g o = 0) (hc : claimOk z c = true) : claimCode f g o z c = 0 := by unfold claimCode; rw [if_pos h, if_pos hc]
theorem claim_no {f g : Fd} {o : Nat → Int} {z : Nat} {c : Nat → Int} (h : ownedCode f g o = 0) (hc : claimOk z c = false) : claimCode f g o z c = 2 := by unfold claimCode; rw [if_pos h, if_neg (by rw [hc]; decide)]
theorem claim_fine {f g : Fd} {o : Nat → Int} {z : Nat} {c : Nat → Int} (h : claimCode f g o z c = 0) : ownedCode f g o = 0 ∧ z = 10 ∧ moneyL z c = true := by
  by_cases h0 : ownedCode f g o = 0
  · cases hc : claimOk z c with
    | true =>
      unfold claimOk at hc
      simp only [Bool.and_eq_true, decide_eq_true_eq] at hc
      exact ⟨h0, hc⟩
    | false => rw [claim_no h0 hc] at h; cases h
  · rw [claim_bad h0] at h; exact absurd h h0
set_option maxHeartbeats 2000000 in
theorem l06Claimed_any (f g : Fd) (hf : f.Wf) (hg : g.Wf) (o : Nat → Int) (ho : WfO o) (z : Nat) (hz : z ≤ 2 ^ 40) (c : Nat → Int) (b1 b2 b3 bc cp : Nat) (w : World) (B : Blk w b1 (fcells f) 32) (C : Blk w b2 (fcells g) 32) (D : Blk w b3 (acells .i8 100 o) 34) (I : InI w bc 0 z c) :
    Calls Tryd.prog 15 #[.pointer (some ⟨b1, 0, none⟩), .pointer (some ⟨b2, 0, none⟩), .pointer (some ⟨b3, 0, none⟩), .slice (some ⟨bc, 0, none⟩) z cp] w fun e w' => e = .returned (.int .i64 (claimCode f g o z c)) ∧ Below w.heap.size w w' := by
  by_cases h0 : ownedCode f g o = 0
  · have H0 := Lib.hid h0
    by_cases hz2 : z = 10
    · subst hz2
      cases hm : moneyL 10 c with
      | true =>
        rw [claim_ok h0 (by unfold claimOk; rw [hm]; rfl)]
        clear h0
        go_enter Tryd.func15, Tryd.ntmps15
        go_wp2_with (first
          | (go_at_call 22; refine (l06Owned_any f g hf hg o ho _ _ _ _ B C D).mono ?_; rintro e W2 ⟨rfl, hb⟩; rw [H0.out]; have I2 := I.later hb)
          | (go_at_call 23; refine (l06Amounts_any 10 hz c 0 bc cp _ I2).mono ?_; rintro e w' ⟨rfl, rfl⟩; rw [hm]))
        go_ret
        exact ⟨rfl, hb⟩
      | false =>
        rw [claim_no h0 (by unfold claimOk; rw [hm]; rfl)]
        clear h0
        go_enter Tryd.func15, Tryd.ntmps15
        go_wp2_with (first
          | (go_at_call 22; refine (l06Owned_any f g hf hg o ho _ _ _ _ B C D).mono ?_; rintro e W2 ⟨rfl, hb⟩; rw [H0.out]; have I2 := I.later hb)
          | (go_at_call 23; refine (l06Amounts_any 10 hz c 0 bc cp _ I2).mono ?_; rintro e w' ⟨rfl, rfl⟩; rw [hm]))
        go_ret
        exact ⟨rfl, hb⟩
    · rw [claim_no h0 (by unfold claimOk; rw [decide_eq_false hz2]; rfl)]
      have hz3 : ¬ ((z : Int) = 10) := by omega
      clear h0
      go_enter Tryd.func15, Tryd.ntmps15
      go_wp2_with (first
        | (go_at_call 22; refine (l06Owned_any f g hf hg o ho _ _ _ _ B C D).mono ?_; rintro e W2 ⟨rfl, hb⟩; rw [H0.out]))
      go_ret
      exact ⟨rfl, hb⟩
  · rw [claim_bad h0]
    have hne : (ownedCode f g o == 0) = false := by simpa using h0
    go_enter Tryd.func15, Tryd.ntmps15
    go_wp2_with (first
      | (go_at_call 22; refine (l06Owned_any f g hf hg o ho _ _ _ _ B C D).mono ?_; rintro e W2 ⟨rfl, hb⟩))
    go_ret
    exact ⟨rfl, hb⟩
end
section
open Go Go.RowKit Go.Shelf
attribute [local go_sem] Oper.semAt_some

set_option maxRecDepth 100000 in
set_option maxHeartbeats 8000000 in
theorem lossesFor_ok (f g : Fd) (hf : f.Wf) (hg : g.Wf) (o : Nat → Int) (ho : WfO o) (z : Nat) (hz : z ≤ 2 ^ 40) (c : Nat → Int) (h : claimCode f g o z c = 0) (bc cp : Nat) (A : Nat → Addr) (w : World) (I : InI w bc 0 z c) (S0 : Sents w A) :
    Calls Tryd.prog 20 #[.agg (fcells f), .agg (fcells g), .agg (acells .i8 100 o), .slice (some ⟨bc, 0, none⟩) z cp] w fun e w' => ∃ bs, e = .returned (.tuple #[.slice (some ⟨bs, 0, none⟩) 10 10, .nilIface]) ∧ w.heap.size ≤ bs ∧ Blk w' bs (acells .i64 10 (byTo f g o 100)) 2 ∧ Below w.heap.size w w' := by
    have S := Lib.hid S0
    have HI := Lib.hid I
    clear S0 I
    have hif := isIfaceErr
    obtain ⟨h0, rfl, hm⟩ := claim_fine h
    obtain ⟨hfit, hp⟩ := ownedCode_fine h0
    obtain ⟨h1, h2, _, _⟩ := pairCode_fine hp
    have H0 := Lib.hid h0
    have HM := Lib.hid hm
    clear h h0 hp hm
    go_enter Tryd.func20, Tryd.ntmps20
    go_upto_region 1 with (fail)
    obtain ⟨W, hW, M⟩ := open3 w (fcells f) 32 (fcells g) 32 (acells .i8 100 o) 34
    rw [hW]; clear hW
    have ok1 : True := trivial
    have ok2 : True := trivial
    have hzp : Hid (Tryd.zeroCells59.size = 404) := Lib.hid (by rw [zeroP, pcells_size])
    go_upto_region 2 with (first
      | (clear ok1; (refine wpList_load_part rfl 32 _ rfl w.heap.size 0 rfl (fcells f) _ (M.at 0 rfl).whole Tryd.underlying32 rfl (by rw [fcells_size]; exact sizeFd) ?_))
      | (clear ok2; (refine wpList_load_part rfl 32 _ rfl (w.heap.size + 1) 0 rfl (fcells g) _ (M.at 1 rfl).whole Tryd.underlying32 rfl (by rw [fcells_size]; exact sizeFd) ?_))
      | (refine wpList_load_part rfl 34 _ rfl (w.heap.size + 1 + 1) 0 rfl (acells .i8 100 o) _ (M.at 2 rfl).whole Tryd.underlying34 rfl (by rw [acells_size]; exact sizeOw) ?_)
      | (refine wpList_buildRow rfl 69 34 _ rfl (acells .i8 100 o) rfl Tryd.underlying69 (by rw [acells_size]; exact sizeOw) (by rw [acells_size]; kernel_rfl) (by rw [acells_size]; omega) (by rw [acells_size]; omega) ?_)
      | (go_at_call 25; refine (pairOf1_fine f g hf hg o ho H0.out _ A _ (Blk.new _ _ _) (S.out.later (M.alloc _ _).below)).mono ?_; rintro e W2 ⟨rfl, hb⟩; have M2 := (M.alloc (acells .i8 100 o) 34).call hb; clear hb; have M3 := M2.alloc Tryd.zeroCells59 59)
      | (refine wpList_store_row rfl 59 _ _ rfl W2.heap.size (pcells f g) rfl rfl 59 _ (M3.at 4 rfl) (by rw [pcells_size]; exact sizeP) (by rw [pcells_size, hzp.out]) (pcells_one _ _) ?_))
    have M4 := M3.row 4 rfl (pcells f g)
    clear M M2 M3
    generalize World.setRow _ _ _ = W4 at M4 ⊢
    obtain ⟨b6, hb6⟩ : ∃ b6, b6 = W2.heap.size := ⟨_, rfl⟩
    rw [← hb6] at M4 ⊢
    clear hb6 hzp
    go_wp2_with (first
      | (go_at_call 26; refine (moneyContains _ hz c bc cp _ (HI.out.later M4.below)).mono ?_; rintro e w' ⟨rfl, rfl⟩; rw [HM.out])
      | (refine wpList_load_part rfl 59 _ rfl b6 0 rfl (pcells f g) _ (M4.at 4 rfl).whole Tryd.underlying59 rfl (by rw [pcells_size]; exact sizeP) ?_)
      | (refine wpList_load_part rfl 34 _ rfl (w.heap.size + 1 + 1) 0 rfl (acells .i8 100 o) _ (M4.at 2 rfl).whole Tryd.underlying34 rfl (by rw [acells_size]; exact sizeOw) ?_)
      | (go_at_call 29; refine (lossBy_any f g hf hg h1 h2 o ho hfit _).mono ?_; rintro e W5 ⟨bs, rfl, hle, hB, hb5⟩; have M5 := M4.call hb5; clear hb5))
    go_ret2
    exact ⟨_, rfl, Nat.le_trans M4.below.size hle, hB, M5.below⟩
set_option maxRecDepth 100000 in
set_option maxHeartbeats 8000000 in
theorem lossesFor_err (f g : Fd) (hf : f.Wf) (hg : g.Wf) (o : Nat → Int) (ho : WfO o) (z : Nat) (hz : z ≤ 2 ^ 40) (c : Nat → Int) (h : claimCode f g o z c ≠ 0) : ∃ (t : TypeId) (v : (Nat → Addr) → Value),
    (∀ A bc cp w, InI w bc 0 z c → Sents w A → Calls Tryd.prog 20 #[.agg (fcells f), .agg (fcells g), .agg (acells .i8 100 o), .slice (some ⟨bc, 0, none⟩) z cp] w fun e w' => e = .returned (.tuple #[.slice none 0 0, .iface t (v A)]) ∧ Below w.heap.size w w') ∧
    (∀ A w, Sents w A → Calls Tryd.prog 21 #[.iface t (v A)] w fun e w' => e = .returned (.int .i64 (claimCode f g o z c)) ∧ Below w.heap.size w w') := by
  have hif := isIfaceErr
  by_cases h0 : ownedCode f g o = 0
  · have H0 := Lib.hid h0
    cases hok : claimOk z c with
    | true => exact absurd (claim_ok h0 hok) h
    | false =>
      rw [claim_no h0 hok]
      refine ⟨111, fun A => .pointer (some (A 2)), fun A bc cp w I S0 => ?_, fun A w S0 => (codeOf_err A 2 (by omega) (by omega) w S0).mono fun e w' h => ⟨h.1, by rw [← h.2]; exact Below.refl _ _⟩⟩
      have S := Lib.hid S0
      have HI := Lib.hid I
      clear S0 I h h0
      by_cases hz2 : z = 10
      · subst hz2
        have hm : moneyL 10 c = false := by unfold claimOk at hok; simpa using hok
        have HM := Lib.hid hm
        clear hm hok
        go_enter Tryd.func20, Tryd.ntmps20
        go_upto_region 1 with (fail)
        obtain ⟨W, hW, M⟩ := open3 w (fcells f) 32 (fcells g) 32 (acells .i8 100 o) 34
        rw [hW]; clear hW
        have ok1 : True := trivial
        have ok2 : True := trivial
        have hzp : Hid (Tryd.zeroCells59.size = 404) := Lib.hid (by rw [zeroP, pcells_size])
        go_upto_region 2 with (first
          | (clear ok1; (refine wpList_load_part rfl 32 _ rfl w.heap.size 0 rfl (fcells f) _ (M.at 0 rfl).whole Tryd.underlying32 rfl (by rw [fcells_size]; exact sizeFd) ?_))
          | (clear ok2; (refine wpList_load_part rfl 32 _ rfl (w.heap.size + 1) 0 rfl (fcells g) _ (M.at 1 rfl).whole Tryd.underlying32 rfl (by rw [fcells_size]; exact sizeFd) ?_))
          | (refine wpList_load_part rfl 34 _ rfl (w.heap.size + 1 + 1) 0 rfl (acells .i8 100 o) _ (M.at 2 rfl).whole Tryd.underlying34 rfl (by rw [acells_size]; exact sizeOw) ?_)
          | (refine wpList_buildRow rfl 69 34 _ rfl (acells .i8 100 o) rfl Tryd.underlying69 (by rw [acells_size]; exact sizeOw) (by rw [acells_size]; kernel_rfl) (by rw [acells_size]; omega) (by rw [acells_size]; omega) ?_)
          | (go_at_call 25; refine (pairOf1_fine f g hf hg o ho H0.out _ A _ (Blk.new _ _ _) (S.out.later (M.alloc _ _).below)).mono ?_; rintro e W2 ⟨rfl, hb⟩; have M2 := (M.alloc (acells .i8 100 o) 34).call hb; clear hb; have M3 := M2.alloc Tryd.zeroCells59 59)
          | (refine wpList_store_row rfl 59 _ _ rfl W2.heap.size (pcells f g) rfl rfl 59 _ (M3.at 4 rfl) (by rw [pcells_size]; exact sizeP) (by rw [pcells_size, hzp.out]) (pcells_one _ _) ?_))
        have M4 := M3.row 4 rfl (pcells f g)
        clear M M2 M3
        generalize World.setRow _ _ _ = W4 at M4 ⊢
        obtain ⟨b6, hb6⟩ : ∃ b6, b6 = W2.heap.size := ⟨_, rfl⟩
        rw [← hb6] at M4 ⊢
        clear hb6 hzp
        have v2 := (S.out.later M4.below).v2
        have v3 := (S.out.later M4.drew.below).v2
        go_wp2_with (go_at_call 26; refine (moneyContains _ hz c bc cp _ (HI.out.later M4.below)).mono ?_; rintro e w' ⟨rfl, rfl⟩; rw [HM.out])
        go_region
        all_goals go_wp2_with fail
        all_goals go_ret2
        all_goals exact ⟨rfl, M4.drew.below⟩
      · have hz3 : ¬ ((z : Int) = 10) := by omega
        clear hok
        go_enter Tryd.func20, Tryd.ntmps20
        go_upto_region 1 with (fail)
        obtain ⟨W, hW, M⟩ := open3 w (fcells f) 32 (fcells g) 32 (acells .i8 100 o) 34
        rw [hW]; clear hW
        have ok1 : True := trivial
        have ok2 : True := trivial
        have hzp : Hid (Tryd.zeroCells59.size = 404) := Lib.hid (by rw [zeroP, pcells_size])
        go_upto_region 2 with (first
          | (clear ok1; (refine wpList_load_part rfl 32 _ rfl w.heap.size 0 rfl (fcells f) _ (M.at 0 rfl).whole Tryd.underlying32 rfl (by rw [fcells_size]; exact sizeFd) ?_))
          | (clear ok2; (refine wpList_load_part rfl 32 _ rfl (w.heap.size + 1) 0 rfl (fcells g) _ (M.at 1 rfl).whole Tryd.underlying32 rfl (by rw [fcells_size]; exact sizeFd) ?_))
          | (refine wpList_load_part rfl 34 _ rfl (w.heap.size + 1 + 1) 0 rfl (acells .i8 100 o) _ (M.at 2 rfl).whole Tryd.underlying34 rfl (by rw [acells_size]; exact sizeOw) ?_)
          | (refine wpList_buildRow rfl 69 34 _ rfl (acells .i8 100 o) rfl Tryd.underlying69 (by rw [acells_size]; exact sizeOw) (by rw [acells_size]; kernel_rfl) (by rw [acells_size]; omega) (by rw [acells_size]; omega) ?_)
          | (go_at_call 25; refine (pairOf1_fine f g hf hg o ho H0.out _ A _ (Blk.new _ _ _) (S.out.later (M.alloc _ _).below)).mono ?_; rintro e W2 ⟨rfl, hb⟩; have M2 := (M.alloc (acells .i8 100 o) 34).call hb; clear hb; have M3 := M2.alloc Tryd.zeroCells59 59)
          | (refine wpList_store_row rfl 59 _ _ rfl W2.heap.size (pcells f g) rfl rfl 59 _ (M3.at 4 rfl) (by rw [pcells_size]; exact sizeP) (by rw [pcells_size, hzp.out]) (pcells_one _ _) ?_))
        have M4 := M3.row 4 rfl (pcells f g)
        clear M M2 M3
        generalize World.setRow _ _ _ = W4 at M4 ⊢
        obtain ⟨b6, hb6⟩ : ∃ b6, b6 = W2.heap.size := ⟨_, rfl⟩
        rw [← hb6] at M4 ⊢
        clear hb6 hzp
        have v2 := (S.out.later M4.below).v2
        have v3 := (S.out.later M4.drew.below).v2
        go_wp2_with fail
        go_region
        all_goals go_wp2_with fail
        all_goals go_ret2
        all_goals exact ⟨rfl, M4.drew.below⟩
  · rw [claim_bad h0]
    obtain ⟨et, ev, hcall, hcode⟩ := pairOf1_err f g hf hg o ho h0
    refine ⟨et, ev, fun A bc cp w I S0 => ?_, hcode⟩
    have S := Lib.hid S0
    clear S0 I h h0
    go_enter Tryd.func20, Tryd.ntmps20
    go_upto_region 1 with (fail)
    obtain ⟨W, hW, M⟩ := open3 w (fcells f) 32 (fcells g) 32 (acells .i8 100 o) 34
    rw [hW]; clear hW
    have ok1 : True := trivial
    have ok2 : True := trivial
    have hzp : Hid (Tryd.zeroCells59.size = 404) := Lib.hid (by rw [zeroP, pcells_size])
    go_upto_region 2 with (first
      | (clear ok1; (refine wpList_load_part rfl 32 _ rfl w.heap.size 0 rfl (fcells f) _ (M.at 0 rfl).whole Tryd.underlying32 rfl (by rw [fcells_size]; exact sizeFd) ?_))
      | (clear ok2; (refine wpList_load_part rfl 32 _ rfl (w.heap.size + 1) 0 rfl (fcells g) _ (M.at 1 rfl).whole Tryd.underlying32 rfl (by rw [fcells_size]; exact sizeFd) ?_))
      | (refine wpList_load_part rfl 34 _ rfl (w.heap.size + 1 + 1) 0 rfl (acells .i8 100 o) _ (M.at 2 rfl).whole Tryd.underlying34 rfl (by rw [acells_size]; exact sizeOw) ?_)
      | (refine wpList_buildRow rfl 69 34 _ rfl (acells .i8 100 o) rfl Tryd.underlying69 (by rw [acells_size]; exact sizeOw) (by rw [acells_size]; kernel_rfl) (by rw [acells_size]; omega) (by rw [acells_size]; omega) ?_)
      | (go_at_call 25; refine (hcall A _ _ (Blk.new _ _ _) (S.out.later (M.alloc _ _).below)).mono ?_; rintro e W2 ⟨rfl, hb⟩; have M2 := (M.alloc (acells .i8 100 o) 34).call hb; clear hb; have M3 := M2.alloc Tryd.zeroCells59 59)
      | (refine wpList_store_row rfl 59 _ _ rfl W2.heap.size (pcells Fd.zero Fd.zero) rfl rfl 59 _ (M3.at 4 rfl) (by rw [pcells_size]; exact sizeP) (by rw [pcells_size, hzp.out]) (pcells_one _ _) ?_))
    have M4 := M3.row 4 rfl (pcells Fd.zero Fd.zero)
    clear M M2 M3
    generalize World.setRow _ _ _ = W4 at M4 ⊢
    obtain ⟨b6, hb6⟩ : ∃ b6, b6 = W2.heap.size := ⟨_, rfl⟩
    rw [← hb6] at M4 ⊢
    clear hb6 hzp
    go_wp2_with fail
    go_ret2
    exact ⟨rfl, M4.below⟩
end
end Go.Proofs.YtgnfpmpjmliegaaDoor
