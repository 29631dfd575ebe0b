/-
  FairClaims: for all fields (valid or not), owners and claims the program answers as the model does, its memory is its own, the claims stay as they are: no condition beyond the listed sentinels, which the card ties to the program's text.
-/
import Derived.Test.YtgnfpmpjmliegaaDoorFair
import Derived.Test.YtgnfpmpjmliegaaDoorRelR
import Derived.Test.YtgnfpmpjmliegaaDoorRegK
import Derived.Test.YtgnfpmpjmliegaaDoorOwnL
import Derived.Test.YtgnfpmpjmliegaaDoorLawh
import Derived.Test.YtgnfpmpjmliegaaDoorOpen
import Derived.Test.YtgnfpmpjmliegaaDoorCard
import Derived.Test.YtgnfpmpjmliegaaDoorTie
import Derived.Test.YtgnfpmpjmliegaaDoorCards
import Derived.SevenTiedAt
import Derived.OpenVars
namespace Go.Proofs.YtgnfpmpjmliegaaDoor.lawFairClaims
open Go Go.ChangeShapes Go.WideShapes Go.ChangeAt Go.RowKit

set_option maxRecDepth 100000 in
set_option maxHeartbeats 16000000 in
theorem walk (w : World) (f : Fd) (hff : f.Wf) (g : Fd) (hfg : g.Wf) (o : Nat → Int) (hoo : ∀ i, i < 100 → (Lit.int .i8 (o i)).wf = true) (sc : Option Addr) (zc cc : Nat) (c : Nat → Int) (hzc : zc ≤ 2 ^ 63 - 1) (hic : InJ w sc zc c) (hgc : Wf64 zc c) (A : Nat → Addr) (S0 : Sents w A) :
    Calls Tryd.prog 3 #[.agg (fcells f), .agg (fcells g), .agg (acells .i8 100 o), .slice sc zc cc] w fun e w' => e = .returned (.bool true) ∧ Below w.heap.size w w' := by
  have S : Hid (Sents w A) := Lib.hid S0
  clear S0
  have ho : WfO o := wfO_of hoo
  clear hoo
  have HIC := Lib.hid hic
  clear hic hgc
  by_cases hb : 1048576 < zc
  · have t0 : decide (1048576 < (zc : Int)) = true := decide_eq_true (by omega)
    go_enter Tryd.func3, Tryd.ntmps3
    go_upto_region 1 with (fail)
    obtain ⟨W, hW, M⟩ := open3 w (fcells f) 27 (fcells g) 27 (acells .i8 100 o) 28
    rw [hW]; clear hW
    go_wp2_with (fail)
    go_ret
    exact ⟨rfl, M.below⟩
  have q : zc ≤ 2 ^ 40 := by omega
  have t0 : decide (1048576 < (zc : Int)) = false := decide_eq_false (by omega)
  have hrb0 := fairList_le f g o zc c
  obtain ⟨rn, hrn⟩ : ∃ x, (fairList f g o zc c).length = x := ⟨_, rfl⟩
  rw [hrn] at hrb0
  obtain ⟨rc, hrc⟩ : ∃ x, claimCode f g o zc c = x := ⟨_, rfl⟩
  obtain ⟨bv, hbv⟩ : ∃ x, (fun i => (fairList f g o zc c).getD i 0) = x := ⟨_, rfl⟩
  have HN := Lib.hid hrn
  have HC := Lib.hid hrc
  have HB := Lib.hid hbv
  have hrb : rn ≤ 2 ^ 40 := by omega
  clear hrn hrc hbv hrb0
  go_enter Tryd.func3, Tryd.ntmps3
  go_upto_region 1 with (fail)
  obtain ⟨W, hW, M⟩ := open3 w (fcells f) 27 (fcells g) 27 (acells .i8 100 o) 28
  rw [hW]; clear hW
  have HM0 := Lib.hid M.before
  have z0 : w.heap.size ≤ W.heap.size := M.below.size
  go_upto_region 3 with (fail)
  refine wp_region_rel (DL [dV (.agg (fcells f)), dV (.agg (fcells f)), dV (.agg (fcells g)), dV (.agg (fcells g)), dV (.agg (acells .i8 100 o)), dV (.agg (acells .i8 100 o)), dV (.slice sc zc cc), dP (fun v lo hi w9 => ∃ b, v = .slice (some ⟨b, 0, none⟩) zc zc ∧ InI w9 b 0 zc c), dP (fun v lo hi w9 => ∃ p k, v = .tuple #[.slice p rn k, .int .i64 rc] ∧ NV lo hi w9 p rn bv), dR id, dR (tupAt 0), dR (tupAt 1), dR id, dR id]) (fun w' => (Mem w w' [⟨w.heap.size, fcells f, 27⟩, ⟨w.heap.size + 1, fcells g, 27⟩, ⟨w.heap.size + 1 + 1, acells .i8 100 o, 28⟩]) ∧ Below W.heap.size W w') (by kernel_rfl) (by kernel_rfl) grows_memB
    (stays_DL (fun d hd => by
      simp only [List.mem_cons, List.mem_nil_iff, or_false] at hd
      rcases hd with rfl | rfl | rfl | rfl | rfl | rfl | rfl | rfl | rfl | rfl | rfl | rfl | rfl | rfl <;> first | exact stay_V | exact stay_P | exact stay_R)) ⟨M.drew, (Below.refl _ _).drew⟩ ?_
  refine rel_load 27 _ rfl (w.heap.size) (0) rfl (fcells f) _ rfl rfl (fun w' hw' => (hw'.1.at 0 rfl).whole) Tryd.underlying27 rfl (by rw [fcells_size]; exact sizeFl) (fun _ => ?_)
  simp only [Act.put, List.setIfInBounds_toArray, List.set_cons_zero, List.set_cons_succ]
  refine rel_call (.agg (fcells f)) 6 #[.agg (fcells f)] rfl rfl rfl rfl (enters_of Tryd.func6 (by kernel_rfl) rfl) (fun w' _ => toField f w') (fun _ => ?_)
  simp only [Act.put, List.setIfInBounds_toArray, List.set_cons_zero, List.set_cons_succ]
  refine rel_load 27 _ rfl (w.heap.size + 1) (0) rfl (fcells g) _ rfl rfl (fun w' hw' => (hw'.1.at 1 rfl).whole) Tryd.underlying27 rfl (by rw [fcells_size]; exact sizeFl) (fun _ => ?_)
  simp only [Act.put, List.setIfInBounds_toArray, List.set_cons_zero, List.set_cons_succ]
  refine rel_call (.agg (fcells g)) 6 #[.agg (fcells g)] rfl rfl rfl rfl (enters_of Tryd.func6 (by kernel_rfl) rfl) (fun w' _ => toField g w') (fun _ => ?_)
  simp only [Act.put, List.setIfInBounds_toArray, List.set_cons_zero, List.set_cons_succ]
  refine rel_load 28 _ rfl (w.heap.size + 1 + 1) (0) rfl (acells .i8 100 o) _ rfl rfl (fun w' hw' => (hw'.1.at 2 rfl).whole) Tryd.underlying28 rfl (by rw [acells_size]; exact sizeO8) (fun _ => ?_)
  simp only [Act.put, List.setIfInBounds_toArray, List.set_cons_zero, List.set_cons_succ]
  refine rel_call (.agg (acells .i8 100 o)) 7 #[.agg (acells .i8 100 o)] rfl rfl rfl rfl (enters_of Tryd.func7 (by kernel_rfl) rfl) (fun w' _ => toOwners o w') (fun _ => ?_)
  simp only [Act.put, List.setIfInBounds_toArray, List.set_cons_zero, List.set_cons_succ]
  refine rel_val _ rfl rfl (fun _ _ => rfl) (fun _ => ?_)
  simp only [Act.put, List.setIfInBounds_toArray, List.set_cons_zero, List.set_cons_succ]
  refine rel_callP _ 8 #[.slice sc zc cc] rfl rfl rfl rfl (enters_of Tryd.func8 (by kernel_rfl) rfl) (fun w' hw' => (Nto_any zc q c sc cc w' (HIC.out.later hw'.1.below)).mono (fun e w2 h => by
    obtain ⟨b, he, hI, _, _, hb⟩ := h
    exact ⟨_, he, hb, fun w3 hb3 => ⟨b, rfl, hI.later hb3⟩⟩)) (fun v lo7 hi7 hle7 hv => ?_)
  obtain ⟨_, _, b7, rfl, _⟩ := hv
  simp only [Act.put, List.setIfInBounds_toArray, List.set_cons_zero, List.set_cons_succ]
  refine rel_callKP 7 _ 5 #[.agg (fcells f), .agg (fcells g), .agg (acells .i8 100 o), .slice (some ⟨b7, 0, none⟩) zc zc] rfl rfl rfl rfl (enters_of Tryd.func5 (by kernel_rfl) rfl) rfl rfl rfl rfl (fun w' hw' hx => by
    obtain ⟨⟨b9, e7, I7⟩, _⟩ := hx
    obtain rfl : b7 = b9 := by simpa using e7
    exact (specFairClaims f g hff hfg o ho zc q c b7 zc w' I7).mono (fun e w2 h => by
    obtain ⟨p, k, he, hv, hw, hb⟩ := h
    rw [HN.out, HC.out] at he
    rw [HN.out, HB.out] at hv
    rw [HN.out] at hw
    exact ⟨_, he, hb, fun w3 hb3 => ⟨p, k, rfl, hv.later hb3⟩⟩)) (fun v lo1 hi1 hle1 hv => ?_)
  obtain ⟨_, _, p1, k1, rfl, _⟩ := hv
  simp only [Act.put, List.setIfInBounds_toArray, List.set_cons_zero, List.set_cons_succ]
  refine rel_read id (.tuple #[.slice p1 rn k1, .int .i64 rc]) rfl (by simp [readBy, Op.operands, Act.eval, tupAt]) rfl (fun _ _ => rfl) (fun _ => ?_)
  simp only [Act.put, List.setIfInBounds_toArray, List.set_cons_zero, List.set_cons_succ]
  refine rel_read (tupAt 0) (.slice p1 rn k1) rfl (by simp [readBy, Op.operands, Act.eval, tupAt]) rfl (fun _ _ => rfl) (fun _ => ?_)
  simp only [Act.put, List.setIfInBounds_toArray, List.set_cons_zero, List.set_cons_succ]
  refine rel_read (tupAt 1) (.int .i64 rc) rfl (by simp [readBy, Op.operands, Act.eval, tupAt]) rfl (fun _ _ => rfl) (fun _ => ?_)
  simp only [Act.put, List.setIfInBounds_toArray, List.set_cons_zero, List.set_cons_succ]
  refine rel_read id (.slice p1 rn k1) rfl (by simp [readBy, Op.operands, Act.eval, tupAt]) rfl (fun _ _ => rfl) (fun _ => ?_)
  simp only [Act.put, List.setIfInBounds_toArray, List.set_cons_zero, List.set_cons_succ]
  refine rel_read id (.int .i64 rc) rfl (by simp [readBy, Op.operands, Act.eval, tupAt]) rfl (fun _ _ => rfl) (fun _ => ?_)
  simp only [Act.put, List.setIfInBounds_toArray, List.set_cons_zero, List.set_cons_succ]
  refine rel_nil (fun W1 inv => ?_)
  obtain ⟨a1, x1, y1, ⟨_, _, e1, V1⟩, _⟩ := inv.fact 8 _ rfl
  have a1 : W.heap.size ≤ lo1 := a1
  have z1 : W.heap.size ≤ W1.heap.size := inv.ge
  obtain ⟨rfl, rfl⟩ : p1 = _ ∧ k1 = _ := by simpa using e1
  clear e1
  have M1 := inv.cls.1
  have B1 := inv.cls.2
  clear inv
  clear M B1
  have H1 := Lib.hid V1
  clear V1
  go_upto_region 5 with (go_at_call 8; refine (Nto_any zc q c sc cc _ (HIC.out.later M1.below)).mono ?_; rintro e W2 ⟨b2, rfl, i2, v2, u2, hb2⟩; have M2 := M1.call hb2; have z2 := hb2.size; have H2 := Lib.hid (H1.out.later hb2); have I2 := Lib.hid i2; have V2 := Lib.hid v2; have U2 := Lib.hid u2; clear hb2 i2 v2 u2 M1 H1)
  refine wp_region_rel (DL [dV (.agg (fcells f)), dV (.agg (fcells f)), dV (.agg (fcells g)), dV (.agg (fcells g)), dV (.agg (acells .i8 100 o)), dV (.agg (acells .i8 100 o)), dV (.slice (some ⟨b2, 0, none⟩) zc zc), dP (fun v lo hi w9 => ∃ p k, v = .tuple #[.slice p rn k, .int .i64 rc] ∧ NV lo hi w9 p rn bv ∧ NW lo hi w9 p rn), dR id, dR (tupAt 0), dR (tupAt 1), dR id, dR id]) (fun w' => (Mem w w' [⟨w.heap.size, fcells f, 27⟩, ⟨w.heap.size + 1, fcells g, 27⟩, ⟨w.heap.size + 1 + 1, acells .i8 100 o, 28⟩]) ∧ Below W2.heap.size W2 w') (by kernel_rfl) (by kernel_rfl) grows_memB
    (stays_DL (fun d hd => by
      simp only [List.mem_cons, List.mem_nil_iff, or_false] at hd
      rcases hd with rfl | rfl | rfl | rfl | rfl | rfl | rfl | rfl | rfl | rfl | rfl | rfl | rfl <;> first | exact stay_V | exact stay_P | exact stay_R)) ⟨M2.drew, (Below.refl _ _).drew⟩ ?_
  refine rel_load 27 _ rfl (w.heap.size) (0) rfl (fcells f) _ rfl rfl (fun w' hw' => (hw'.1.at 0 rfl).whole) Tryd.underlying27 rfl (by rw [fcells_size]; exact sizeFl) (fun _ => ?_)
  simp only [Act.put, List.setIfInBounds_toArray, List.set_cons_zero, List.set_cons_succ]
  refine rel_call (.agg (fcells f)) 6 #[.agg (fcells f)] rfl rfl rfl rfl (enters_of Tryd.func6 (by kernel_rfl) rfl) (fun w' _ => toField f w') (fun _ => ?_)
  simp only [Act.put, List.setIfInBounds_toArray, List.set_cons_zero, List.set_cons_succ]
  refine rel_load 27 _ rfl (w.heap.size + 1) (0) rfl (fcells g) _ rfl rfl (fun w' hw' => (hw'.1.at 1 rfl).whole) Tryd.underlying27 rfl (by rw [fcells_size]; exact sizeFl) (fun _ => ?_)
  simp only [Act.put, List.setIfInBounds_toArray, List.set_cons_zero, List.set_cons_succ]
  refine rel_call (.agg (fcells g)) 6 #[.agg (fcells g)] rfl rfl rfl rfl (enters_of Tryd.func6 (by kernel_rfl) rfl) (fun w' _ => toField g w') (fun _ => ?_)
  simp only [Act.put, List.setIfInBounds_toArray, List.set_cons_zero, List.set_cons_succ]
  refine rel_load 28 _ rfl (w.heap.size + 1 + 1) (0) rfl (acells .i8 100 o) _ rfl rfl (fun w' hw' => (hw'.1.at 2 rfl).whole) Tryd.underlying28 rfl (by rw [acells_size]; exact sizeO8) (fun _ => ?_)
  simp only [Act.put, List.setIfInBounds_toArray, List.set_cons_zero, List.set_cons_succ]
  refine rel_call (.agg (acells .i8 100 o)) 7 #[.agg (acells .i8 100 o)] rfl rfl rfl rfl (enters_of Tryd.func7 (by kernel_rfl) rfl) (fun w' _ => toOwners o w') (fun _ => ?_)
  simp only [Act.put, List.setIfInBounds_toArray, List.set_cons_zero, List.set_cons_succ]
  refine rel_val _ rfl rfl (fun _ _ => rfl) (fun _ => ?_)
  simp only [Act.put, List.setIfInBounds_toArray, List.set_cons_zero, List.set_cons_succ]
  refine rel_callP _ 9 #[.agg (fcells f), .agg (fcells g), .agg (acells .i8 100 o), .slice (some ⟨b2, 0, none⟩) zc zc] rfl rfl rfl rfl (enters_of Tryd.func9 (by kernel_rfl) rfl) (fun w' hw' => (implFairClaims f g hff hfg o ho zc q c b2 zc A w' (I2.out.later hw'.2) (S.out.later hw'.1.below)).mono (fun e w2 h => by
    obtain ⟨p, k, he, hv, hw, hb⟩ := h
    rw [HN.out, HC.out] at he
    rw [HN.out, HB.out] at hv
    rw [HN.out] at hw
    exact ⟨_, he, hb, fun w3 hb3 => ⟨p, k, rfl, hv.later hb3, hw.later hb3⟩⟩)) (fun v lo3 hi3 hle3 hv => ?_)
  obtain ⟨_, _, p3, k3, rfl, _⟩ := hv
  simp only [Act.put, List.setIfInBounds_toArray, List.set_cons_zero, List.set_cons_succ]
  refine rel_read id (.tuple #[.slice p3 rn k3, .int .i64 rc]) rfl (by simp [readBy, Op.operands, Act.eval, tupAt]) rfl (fun _ _ => rfl) (fun _ => ?_)
  simp only [Act.put, List.setIfInBounds_toArray, List.set_cons_zero, List.set_cons_succ]
  refine rel_read (tupAt 0) (.slice p3 rn k3) rfl (by simp [readBy, Op.operands, Act.eval, tupAt]) rfl (fun _ _ => rfl) (fun _ => ?_)
  simp only [Act.put, List.setIfInBounds_toArray, List.set_cons_zero, List.set_cons_succ]
  refine rel_read (tupAt 1) (.int .i64 rc) rfl (by simp [readBy, Op.operands, Act.eval, tupAt]) rfl (fun _ _ => rfl) (fun _ => ?_)
  simp only [Act.put, List.setIfInBounds_toArray, List.set_cons_zero, List.set_cons_succ]
  refine rel_read id (.slice p3 rn k3) rfl (by simp [readBy, Op.operands, Act.eval, tupAt]) rfl (fun _ _ => rfl) (fun _ => ?_)
  simp only [Act.put, List.setIfInBounds_toArray, List.set_cons_zero, List.set_cons_succ]
  refine rel_read id (.int .i64 rc) rfl (by simp [readBy, Op.operands, Act.eval, tupAt]) rfl (fun _ _ => rfl) (fun _ => ?_)
  simp only [Act.put, List.setIfInBounds_toArray, List.set_cons_zero, List.set_cons_succ]
  refine rel_nil (fun W3 inv => ?_)
  obtain ⟨a3, x3, y3, ⟨_, _, e3, V3, N3⟩, _⟩ := inv.fact 7 _ rfl
  have a3 : W2.heap.size ≤ lo3 := a3
  have z3 : W2.heap.size ≤ W3.heap.size := inv.ge
  obtain ⟨rfl, rfl⟩ : p3 = _ ∧ k3 = _ := by simpa using e3
  clear e3
  have M3 := inv.cls.1
  have B3 := inv.cls.2
  clear inv
  have H3 := Lib.hid (H2.out.later B3)
  have G3 := Lib.hid V3
  have K3 := Lib.hid N3
  have X3 := Lib.hid (V2.out.later B3)
  have U3 := Lib.hid (U2.out.later B3)
  clear V3 N3 B3 H2 I2 V2 U2 M2
  go_upto_region 8 with (go_at_call 10; refine (Neq_J _ hrb _ _ _ _ _ _ G3.out.j H3.out.j).mono ?_; rintro e W4 ⟨rfl, hb⟩; have M4 := M3.call hb; have z4 := hb.size; have H4 := Lib.hid (H3.out.later hb); have G4 := Lib.hid (G3.out.later hb); have K4 := Lib.hid (K3.out.later hb); have X4 := Lib.hid (X3.out.later hb); have U4 := Lib.hid (U3.out.later hb); clear hb M3 H3 G3 K3 X3 U3)
  go_upto_region 11 with (first
    | (go_at_call 8; refine (Nto_any zc q c sc cc _ (HIC.out.later M4.below)).mono ?_; rintro e W5 ⟨b5, rfl, i5, v5, u5, hb⟩; have M5 := M4.call hb; have z5 := hb.size; have H5 := Lib.hid (H4.out.later hb); have G5 := Lib.hid (G4.out.later hb); have K5 := Lib.hid (K4.out.later hb); have X5 := Lib.hid (X4.out.later hb); have U5 := Lib.hid (U4.out.later hb); have Y5 := Lib.hid v5; clear hb i5 v5 u5 M4 H4 G4 K4 X4 U4)
    | (go_at_call 10; refine (Neq_J _ q _ _ _ _ _ _ X5.out.j Y5.out.j).mono ?_; rintro e W6 ⟨rfl, hb⟩; have M6 := M5.call hb; have z6 := hb.size; have H6 := Lib.hid (H5.out.later hb); have G6 := Lib.hid (G5.out.later hb); have K6 := Lib.hid (K5.out.later hb); have U6 := Lib.hid (U5.out.later hb); clear hb M5 H5 G5 K5 X5 U5 Y5))
  go_upto_region 12 with (go_at_call 11; refine (Nmark_any _ q (1) (by omega) _ _ _ U6.out).mono ?_; rintro e W7 ⟨rfl, hm, v0⟩; have M7 := NMem.marked M6 hm (by omega) (fun i e h => Or.inl (Nat.lt_of_lt_of_le (HM0.out i e h) (by omega))); have z7 := hm.size; have H7 := Lib.hid (H6.out.marked hm (by omega)); have G7 := Lib.hid (G6.out.marked hm (by omega)); have K7 := Lib.hid (K6.out.marked hm (by omega)); clear hm v0 M6 H6 G6 K6 U6)
  go_upto_region 15 with (go_at_call 10; refine (Neq_J _ hrb _ _ _ _ _ _ G7.out.j H7.out.j).mono ?_; rintro e W8 ⟨rfl, hb⟩; have M8 := M7.call hb; have z8 := hb.size; have H8 := Lib.hid (H7.out.later hb); have K8 := Lib.hid (K7.out.later hb); clear hb M7 H7 G7 K7)
  go_upto_region 17 with (go_at_call 11; refine (Nmark_any _ hrb (1) (by omega) _ _ _ K8.out).mono ?_; rintro e W9 ⟨rfl, hm, v0⟩; have M9 := NMem.marked M8 hm (by omega) (fun i e h => Or.inl (Nat.lt_of_lt_of_le (HM0.out i e h) (by omega))); have z9 := hm.size; have H9 := Lib.hid (H8.out.marked hm (by omega)); have V9 := Lib.hid v0; clear hm v0 M8 H8 K8)
  go_upto_region 22 with (go_at_call 12; refine (Nheld_any _ hrb (1) (by omega) _ _ _ V9.out).mono ?_; rintro e W10 ⟨rfl, hb⟩; have M10 := M9.call hb; have z10 := hb.size; have H10 := Lib.hid (H9.out.later hb); have V10 := Lib.hid (V9.out.later hb); clear hb M9 H9 V9)
  refine wp_region_rel (DL [dV (.agg (fcells f)), dV (.agg (fcells f)), dV (.agg (fcells g)), dV (.agg (fcells g)), dV (.agg (acells .i8 100 o)), dV (.agg (acells .i8 100 o)), dV (.slice sc zc cc), dP (fun v lo hi w9 => ∃ b, v = .slice (some ⟨b, 0, none⟩) zc zc ∧ InI w9 b 0 zc c), dP (fun v lo hi w9 => ∃ p k, v = .tuple #[.slice p rn k, .int .i64 rc] ∧ NV lo hi w9 p rn bv), dR id, dR (tupAt 0), dR (tupAt 1), dR id, dR id]) (fun w' => (Mem w w' [⟨w.heap.size, fcells f, 27⟩, ⟨w.heap.size + 1, fcells g, 27⟩, ⟨w.heap.size + 1 + 1, acells .i8 100 o, 28⟩]) ∧ Below W10.heap.size W10 w') (by kernel_rfl) (by kernel_rfl) grows_memB
    (stays_DL (fun d hd => by
      simp only [List.mem_cons, List.mem_nil_iff, or_false] at hd
      rcases hd with rfl | rfl | rfl | rfl | rfl | rfl | rfl | rfl | rfl | rfl | rfl | rfl | rfl | rfl <;> first | exact stay_V | exact stay_P | exact stay_R)) ⟨M10.drew, (Below.refl _ _).drew⟩ ?_
  refine rel_load 27 _ rfl (w.heap.size) (0) rfl (fcells f) _ rfl rfl (fun w' hw' => (hw'.1.at 0 rfl).whole) Tryd.underlying27 rfl (by rw [fcells_size]; exact sizeFl) (fun _ => ?_)
  simp only [Act.put, List.setIfInBounds_toArray, List.set_cons_zero, List.set_cons_succ]
  refine rel_call (.agg (fcells f)) 6 #[.agg (fcells f)] rfl rfl rfl rfl (enters_of Tryd.func6 (by kernel_rfl) rfl) (fun w' _ => toField f w') (fun _ => ?_)
  simp only [Act.put, List.setIfInBounds_toArray, List.set_cons_zero, List.set_cons_succ]
  refine rel_load 27 _ rfl (w.heap.size + 1) (0) rfl (fcells g) _ rfl rfl (fun w' hw' => (hw'.1.at 1 rfl).whole) Tryd.underlying27 rfl (by rw [fcells_size]; exact sizeFl) (fun _ => ?_)
  simp only [Act.put, List.setIfInBounds_toArray, List.set_cons_zero, List.set_cons_succ]
  refine rel_call (.agg (fcells g)) 6 #[.agg (fcells g)] rfl rfl rfl rfl (enters_of Tryd.func6 (by kernel_rfl) rfl) (fun w' _ => toField g w') (fun _ => ?_)
  simp only [Act.put, List.setIfInBounds_toArray, List.set_cons_zero, List.set_cons_succ]
  refine rel_load 28 _ rfl (w.heap.size + 1 + 1) (0) rfl (acells .i8 100 o) _ rfl rfl (fun w' hw' => (hw'.1.at 2 rfl).whole) Tryd.underlying28 rfl (by rw [acells_size]; exact sizeO8) (fun _ => ?_)
  simp only [Act.put, List.setIfInBounds_toArray, List.set_cons_zero, List.set_cons_succ]
  refine rel_call (.agg (acells .i8 100 o)) 7 #[.agg (acells .i8 100 o)] rfl rfl rfl rfl (enters_of Tryd.func7 (by kernel_rfl) rfl) (fun w' _ => toOwners o w') (fun _ => ?_)
  simp only [Act.put, List.setIfInBounds_toArray, List.set_cons_zero, List.set_cons_succ]
  refine rel_val _ rfl rfl (fun _ _ => rfl) (fun _ => ?_)
  simp only [Act.put, List.setIfInBounds_toArray, List.set_cons_zero, List.set_cons_succ]
  refine rel_callP _ 8 #[.slice sc zc cc] rfl rfl rfl rfl (enters_of Tryd.func8 (by kernel_rfl) rfl) (fun w' hw' => (Nto_any zc q c sc cc w' (HIC.out.later hw'.1.below)).mono (fun e w2 h => by
    obtain ⟨b, he, hI, _, _, hb⟩ := h
    exact ⟨_, he, hb, fun w3 hb3 => ⟨b, rfl, hI.later hb3⟩⟩)) (fun v lo7 hi7 hle7 hv => ?_)
  obtain ⟨_, _, b7, rfl, _⟩ := hv
  simp only [Act.put, List.setIfInBounds_toArray, List.set_cons_zero, List.set_cons_succ]
  refine rel_callKP 7 _ 9 #[.agg (fcells f), .agg (fcells g), .agg (acells .i8 100 o), .slice (some ⟨b7, 0, none⟩) zc zc] rfl rfl rfl rfl (enters_of Tryd.func9 (by kernel_rfl) rfl) rfl rfl rfl rfl (fun w' hw' hx => by
    obtain ⟨⟨b9, e7, I7⟩, _⟩ := hx
    obtain rfl : b7 = b9 := by simpa using e7
    exact (implFairClaims f g hff hfg o ho zc q c b7 zc A w' I7 (S.out.later hw'.1.below)).mono (fun e w2 h => by
    obtain ⟨p, k, he, hv, hw, hb⟩ := h
    rw [HN.out, HC.out] at he
    rw [HN.out, HB.out] at hv
    rw [HN.out] at hw
    exact ⟨_, he, hb, fun w3 hb3 => ⟨p, k, rfl, hv.later hb3⟩⟩)) (fun v lo11 hi11 hle11 hv => ?_)
  obtain ⟨_, _, p11, k11, rfl, _⟩ := hv
  simp only [Act.put, List.setIfInBounds_toArray, List.set_cons_zero, List.set_cons_succ]
  refine rel_read id (.tuple #[.slice p11 rn k11, .int .i64 rc]) rfl (by simp [readBy, Op.operands, Act.eval, tupAt]) rfl (fun _ _ => rfl) (fun _ => ?_)
  simp only [Act.put, List.setIfInBounds_toArray, List.set_cons_zero, List.set_cons_succ]
  refine rel_read (tupAt 0) (.slice p11 rn k11) rfl (by simp [readBy, Op.operands, Act.eval, tupAt]) rfl (fun _ _ => rfl) (fun _ => ?_)
  simp only [Act.put, List.setIfInBounds_toArray, List.set_cons_zero, List.set_cons_succ]
  refine rel_read (tupAt 1) (.int .i64 rc) rfl (by simp [readBy, Op.operands, Act.eval, tupAt]) rfl (fun _ _ => rfl) (fun _ => ?_)
  simp only [Act.put, List.setIfInBounds_toArray, List.set_cons_zero, List.set_cons_succ]
  refine rel_read id (.slice p11 rn k11) rfl (by simp [readBy, Op.operands, Act.eval, tupAt]) rfl (fun _ _ => rfl) (fun _ => ?_)
  simp only [Act.put, List.setIfInBounds_toArray, List.set_cons_zero, List.set_cons_succ]
  refine rel_read id (.int .i64 rc) rfl (by simp [readBy, Op.operands, Act.eval, tupAt]) rfl (fun _ _ => rfl) (fun _ => ?_)
  simp only [Act.put, List.setIfInBounds_toArray, List.set_cons_zero, List.set_cons_succ]
  refine rel_nil (fun W11 inv => ?_)
  obtain ⟨a11, x11, y11, ⟨_, _, e11, V11⟩, _⟩ := inv.fact 8 _ rfl
  have a11 : W10.heap.size ≤ lo11 := a11
  have z11 : W10.heap.size ≤ W11.heap.size := inv.ge
  obtain ⟨rfl, rfl⟩ : p11 = _ ∧ k11 = _ := by simpa using e11
  clear e11
  have M11 := inv.cls.1
  have B11 := inv.cls.2
  clear inv
  have H11 := Lib.hid (H10.out.later B11)
  have G11 := Lib.hid V11
  have U11 := Lib.hid (V10.out.later B11)
  clear V11 B11 H10 V10 M10
  go_upto_region 26 with (go_at_call 10; refine (Neq_J _ hrb _ _ _ _ _ _ G11.out.j H11.out.j).mono ?_; rintro e W12 ⟨rfl, hb⟩; have M12 := M11.call hb; have U12 := Lib.hid (U11.out.later hb); clear hb M11 U11 G11 H11)
  go_wp2_with (go_at_call 12; refine (Nheld_any _ hrb (1) (by omega) _ _ _ U12.out).mono ?_; rintro e W13 ⟨rfl, hb⟩; have M13 := M12.call hb; clear hb M12 U12)
  go_ret
  exact ⟨rfl, M13.below⟩
theorem trodVars_len {H : Type} {enc : TypeId × Value → H} {P : Program} {w : World} {sp : Nat → Bool} : ∀ {ns : List String} {gs : List (DataW H)} {ps : List MemPlace}, DataW.TrodVars enc P w sp ns gs ps → gs.length = ns.length
  | [], [], _, _ => rfl
  | [], _ :: _, _, h => h.elim
  | _ :: _, [], _, h => h.elim
  | _ :: _, _ :: _, _, ⟨_, _, _, _, _, _, _, _, _, _, h, _⟩ => congrArg (· + 1) (trodVars_len h)
theorem door_met (os : Os) (args : Array Value) : laidMetH Tryd.prog Rows.fnExactFairClaimsRow.laid ((World.doorLaid Tryd.prog 400 os).forCall (fun _ _ => 0) ⟨#[], args, []⟩).memory :=
  laidMetH_of_parts3 (fuel := 8) (laidMet_of_run' 8 (by kernel_rfl) (by kernel_rfl)) (by kernel_rfl) (by kernel_rfl)
set_option maxRecDepth 100000 in
theorem lifted (os : Os) (started : os.Started) (H : Type) (enc : TypeId × Value → H) :
    ReturnsInHanded {} Tryd.checked os 3 .any (fun w args => (Rows.fnExactFairClaimsSpec.pre enc Tryd.prog Tryd.f3 Rows.fnExactFairClaimsRow.domain false w args ∧ laidMetH Tryd.prog Rows.fnExactFairClaimsRow.laid w) ∧ sizedMet enc Tryd.prog Tryd.f3 (OpenSpec.ofChange Rows.fnExactFairClaimsSpec) false w args) (Rows.fnExactFairClaimsSpec.post enc Tryd.prog Tryd.f3 false true false false) := by
  refine returnsInHanded_of_change_and (C := Tryd.checked) (X := fun w _ => laidMetH Tryd.prog Rows.fnExactFairClaimsRow.laid w) (fun _ _ _ hh h => h.of_heap hh) own started (by kernel_rfl) Tryd.func3
    (ChangeSpec.witness_shaped (enc := enc) (C := Tryd.checked) (os := os) (X := fun w _ => laidMetH Tryd.prog Rows.fnExactFairClaimsRow.laid w) false (World.doorLaid Tryd.prog 400 os) #[.agg (fcells Fd.zero), .agg (fcells Fd.zero), .agg (acells .i8 100 (fun _ => 0)), .slice none 0 0] 8 rfl (World.shaped_of_RefB (by kernel_rfl) (by kernel_rfl)) (by kernel_rfl) (by kernel_rfl) (by kernel_rfl) (door_met os _)) ?_
  intro W base args ds gs before hval0 hW _ _ hL _
  have hval : ∀ (j : Nat) t v, Tryd.f3.params[j]? = some t → args[j]? = some v → Value.okWide Tryd.prog W .any base t v := hval0
  have hW' := hW
  obtain ⟨p, q, hA0, hV0, rfl, hfz, hnd⟩ := hW
  have hA : DataW.TrodAll enc Tryd.prog W 0 (fun _ => true) true Tryd.f3.params.toList args.toList ds p := hA0
  have hV : DataW.TrodVars enc Tryd.prog W (fun _ => true) Rows.fnExactFairClaimsSpec.vars gs q := hV0
  rw [Tryd.params3] at hA hval
  obtain ⟨v0, vs0, d0, ds0, p0, q0, hargs, rfl, rfl, h0, r0⟩ := trodAll_cons hA
  obtain ⟨v1, vs1, d1, ds1, p1, q1, rfl, rfl, rfl, h1, r1⟩ := trodAll_cons r0
  obtain ⟨v2, vs2, d2, ds2, p2, q2, rfl, rfl, rfl, h2, r2⟩ := trodAll_cons r1
  obtain ⟨v3, vs3, d3, ds3, p3, q3, rfl, rfl, rfl, h3, r3⟩ := trodAll_cons r2
  obtain ⟨rfl, rfl, rfl⟩ := trodAll_nil r3
  obtain rfl : args = #[v0, v1, v2, v3] := by cases args; simp_all
  rw [MakeChecks.laidMetH_plain _ _ _ (by kernel_rfl)] at hL
  obtain ⟨A, SV⟩ := sentVars (rest := []) hL
  have hlen := trodVars_len hV
  obtain ⟨gv1, gv2, gv3, gv4, gv5, gv6, gv7, gv8, rfl⟩ : ∃ gv1 gv2 gv3 gv4 gv5 gv6 gv7 gv8, gs = [gv1, gv2, gv3, gv4, gv5, gv6, gv7, gv8] := by
    match gs, hlen with
    | [gv1, gv2, gv3, gv4, gv5, gv6, gv7, gv8], _ => exact ⟨gv1, gv2, gv3, gv4, gv5, gv6, gv7, gv8, rfl⟩
  have k0 := h0
  have lt0 : ∀ x ∈ p0, x.block < W.heap.size := by obtain ⟨m, hm⟩ := k0; exact DataW.trod_lt m _ _ _ hm
  have k1 := h1
  have lt1 : ∀ x ∈ p1, x.block < W.heap.size := by obtain ⟨m, hm⟩ := k1; exact DataW.trod_lt m _ _ _ hm
  have k2 := h2
  have lt2 : ∀ x ∈ p2, x.block < W.heap.size := by obtain ⟨m, hm⟩ := k2; exact DataW.trod_lt m _ _ _ hm
  have k3 := h3
  have lt3 : ∀ x ∈ p3, x.block < W.heap.size := by obtain ⟨m, hm⟩ := k3; exact DataW.trod_lt m _ _ _ hm
  obtain ⟨f0, rfl, hf0⟩ := open_field (fs := Tryd.prog.fieldsOf 27) (by kernel_rfl) (by kernel_rfl) Tryd.underlying22 Tryd.underlying23 Tryd.underlying5 Tryd.underlying25 Tryd.underlying24 (by kernel_rfl) (by kernel_rfl) (by kernel_rfl) (by kernel_rfl) (by kernel_rfl) (by kernel_rfl) (hval 0 27 v0 rfl rfl) h0
  obtain ⟨f1, rfl, hf1⟩ := open_field (fs := Tryd.prog.fieldsOf 27) (by kernel_rfl) (by kernel_rfl) Tryd.underlying22 Tryd.underlying23 Tryd.underlying5 Tryd.underlying25 Tryd.underlying24 (by kernel_rfl) (by kernel_rfl) (by kernel_rfl) (by kernel_rfl) (by kernel_rfl) (by kernel_rfl) (hval 1 27 v1 rfl rfl) h1
  obtain ⟨f2, rfl, hf2⟩ := open_row (q := .i8) Tryd.underlying28 Tryd.underlying22 (by kernel_rfl) (by kernel_rfl) (hval 2 28 v2 rfl rfl) h2
  obtain ⟨s3, z3, c3, g3, rfl, hz3, hi3, hg3⟩ := open_nums Tryd.underlying29 Tryd.underlying2 (by kernel_rfl) (hval 3 29 v3 rfl rfl) h3
  clear hA0 hval0 hV0
  refine (walk W f0 hf0 f1 hf1 f2 hf2 s3 z3 c3 g3 (by simpa [maxLen] using hz3) hi3 hg3 A SV.sents).mono fun e W' ⟨he, bel⟩ => ?_
  subst he
  exact ⟨_, rfl, _, _, _, [], _, _, hW', trodAll_mk1 (shut_bool Tryd.underlying4 _), (trodAll_cons_mk (Below.trod laidOut (by kernel_rfl) (of_decide_eq_true (by kernel_rfl)) k0 bel lt0) (trodAll_cons_mk (Below.trod laidOut (by kernel_rfl) (of_decide_eq_true (by kernel_rfl)) k1 bel lt1) (trodAll_cons_mk (Below.trod laidOut (by kernel_rfl) (of_decide_eq_true (by kernel_rfl)) k2 bel lt2) (trodAll_cons_mk (Below.trod laidOut (by kernel_rfl) (of_decide_eq_true (by kernel_rfl)) k3 bel lt3) trodAll_mk0)))), Below.trodVars laidOut bel (by kernel_rfl) hV, bel.frame _, fun h => by cases h⟩

theorem over : Rows.fnExactFairClaimsRow.holds Tryd.pinned (OpenSpec.ofChange Rows.fnExactFairClaimsSpec) :=
  OpenClaim.holds_of_wide 3 Tryd.f3 rfl rfl rfl rfl rfl rfl rfl ⟨rfl, rfl, rfl, rfl, rfl⟩ rfl rfl rfl rfl rfl (by kernel_rfl) Tryd.func3 (by kernel_rfl)
    (of_decide_eq_true (by kernel_rfl)) (by unfold Func.isWrapper; first | (rw [if_pos (by decide +kernel)]; kernel_rfl) | (rw [if_neg (by decide +kernel)]; exact ⟨rfl, rfl⟩))
    (fun os started H enc _ => lifted os started H enc)
theorem proved : Rows.FnExactFairClaimsCardSaid :=
  Claim7.holds_tied_plain_at .later [] [.sentinel, .sentinel, .sentinel, .sentinel, .sentinel, .sentinel, .sentinel, .sentinel] true (true, "a18e0e771a8681fbc84763602cc3e957ee2f5366bf5cbfeea28f1b95c0f9a8c9") true
    over (fun _ h => by cases h) (by kernel_rfl) (fun _ h => by cases h) fnExactFairClaims_row_tie rfl ⟨rfl, rfl⟩ (by kernel_rfl) rfl
    (fun f fn hf hfn => by
      obtain rfl : f = 3 := Option.some.inj ((show Tryd.prog.funcNamed "loop.example/g01338/laws.FnExactFairClaims" = some 3 by kernel_rfl).symm.trans hf) |>.symm
      obtain rfl : fn = Tryd.f3 := (Option.some.inj (Tryd.func3.symm.trans hfn)).symm
      exact ⟨by kernel_rfl, fun j t ht => by
        rw [Tryd.params3] at ht
        have hm : t ∈ [27, 27, 28, 29] := by simpa using Array.mem_of_getElem? ht
        have hall : ([27, 27, 28, 29].all fun u => !Tryd.prog.wantsStandIn u) = true := by kernel_rfl
        exact (show Tryd.prog.wantsStandIn t = false by simpa using List.all_eq_true.1 hall t hm)⟩)
    (by kernel_rfl)
#print axioms proved
end Go.Proofs.YtgnfpmpjmliegaaDoor.lawFairClaims
