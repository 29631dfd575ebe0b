/-
  StillHungry: for every field (valid or not) and all further arguments the program answers as the model does, its memory is its own, and the flocks stay as they are: no condition beyond the listed variables, which the card ties to the program's text.
-/
import Derived.Test.YtaioflkonpommaaDoorSth
import Derived.Test.YtaioflkonpommaaDoorFears2
import Derived.Test.YtaioflkonpommaaDoorLstM
import Derived.Test.YtaioflkonpommaaDoorTab
import Derived.Test.YtaioflkonpommaaDoorCoreB
import Derived.Test.YtaioflkonpommaaDoorRelR
import Derived.Test.YtaioflkonpommaaDoorLawh
import Derived.Test.YtaioflkonpommaaDoorCard
import Derived.Test.YtaioflkonpommaaDoorTie
import Derived.Test.YtaioflkonpommaaDoorCards
import Derived.SevenTiedAt
import Derived.OpenVars
namespace Go.Proofs.YtaioflkonpommaaDoor.lawStillHungry
open Go Go.ChangeShapes Go.WideShapes Go.ChangeAt Go.RowKit

theorem sizeL16 : (Tryd.prog.info? 25).map (·.size) = some 100 := by kernel_rfl
set_option maxRecDepth 100000 in
set_option maxHeartbeats 16000000 in
theorem walk (w : World) (f : Fd) (hff : f.Wf) (g : Nat → Int) (hvg : ∀ i, i < 100 → (Lit.int .i16 (g i)).wf = true) (s : Option Addr) (z c : Nat) (F : Nat → Nat → Int) (hz : z ≤ 2 ^ 63 - 1) (hi : InA ksFlock w s z F) (hg9 : WfS ksFlock z F) (A : Nat → Addr) (T0 : TabAt w) (S0 : Sents w A) : Calls Tryd.prog 8 #[.agg (fcells f), .agg (acells .i16 100 g), .slice s z c] w fun e w' => e = .returned (.bool true) ∧ Below w.heap.size w w' := by
  have S : Hid (Sents w A) := Lib.hid S0
  have T : Hid (TabAt w) := Lib.hid T0
  have HI := Lib.hid hi
  have hwg : Wf16 g := fun i hi => bounds_i16 (hvg i hi)
  clear S0 T0 hi hvg
  by_cases hbig : 1048576 < z
  · go_enter Tryd.func8, Tryd.ntmps8
    go_upto_region 1 with (fail)
    obtain ⟨W, hW, M⟩ := open2 w (fcells f) 27 (acells .i16 100 g) 25
    rw [hW]; clear hW
    go_wp2_with (go_at_call 21; refine (szFlockS_any z c (by omega) s _ (by omega) (by omega) (by omega) _).mono ?_; rintro e w9 ⟨rfl, rfl⟩; rw [if_pos (by omega)])
    go_ret
    exact ⟨rfl, M.below⟩
  have q : z ≤ 2 ^ 40 := by omega
  have hrb0 := shN_le f g z F
  have HS := Lib.hid (fun b w I => specSth f hff g hwg z q F hg9 b z w I)
  have HP := Lib.hid (fun b w T S I => implSth f hff g hwg z q F hg9 b z A w T S I)
  obtain ⟨rc, hrc⟩ : ∃ rc, alCode f g z F = rc := ⟨_, rfl⟩
  obtain ⟨rn, hrn⟩ : ∃ rn, shN f g z F = rn := ⟨_, rfl⟩
  obtain ⟨bv, hbv⟩ : ∃ bv, (fun i => (shL f g z F z).getD i 0) = bv := ⟨_, rfl⟩
  unfold ShP at HS HP
  rw [hrc, hrn, hbv] at HS HP
  rw [hrn] at hrb0
  have hrb : rn ≤ 2 ^ 40 := by omega
  clear hrc hff hwg hrn hbv hg9
  go_enter Tryd.func8, Tryd.ntmps8
  go_upto_region 1 with (fail)
  obtain ⟨W, hW, M⟩ := open2 w (fcells f) 27 (acells .i16 100 g) 25
  rw [hW]; clear hW
  have HM0 := Lib.hid M.before
  have z0 : w.heap.size ≤ W.heap.size := M.below.size
  go_upto_region 5 with (go_at_call 21; refine (szFlockS_any z c (by omega) s _ (by omega) (by omega) (by omega) _).mono ?_; rintro e w9 ⟨rfl, rfl⟩; rw [if_neg (by omega)])
  refine wp_region_rel (DL [dV (.agg (fcells f)), dV (.agg (fcells f)), dV (.agg (acells .i16 100 g)), dV (.agg (acells .i16 100 g)), dV (.slice s z c), dP (fun v lo hi w9 => ∃ b, v = .slice (some ⟨b, 0, none⟩) z z ∧ InS w9 b 0 z ksFlock F), dP (fun v lo hi w9 => ∃ p c, v = .tuple #[.slice p rn c, .int .i64 rc] ∧ NV lo hi w9 p rn bv), dR id, dR (tupAt 0), dR (tupAt 1), dR id, dR id]) (fun w' => (Mem w w' [⟨w.heap.size, fcells f, 27⟩, ⟨w.heap.size + 1, acells .i16 100 g, 25⟩]) ∧ Below W.heap.size W w') (by kernel_rfl) (by kernel_rfl) grows_memB
    (stays_DL (fun d hd => by
      simp only [List.mem_cons, List.mem_nil_iff, or_false] at hd
      rcases hd with rfl | rfl | rfl | rfl | rfl | rfl | rfl | rfl | rfl | rfl | rfl | rfl <;> first | exact stay_V | exact stay_P | exact stay_R)) ⟨M.drew, (Below.refl _ _).drew⟩ ?_
  refine rel_load 27 _ rfl (w.heap.size) (0) rfl (fcells f) _ rfl rfl (fun w' hw' => (hw'.1.at 0 rfl).whole) Tryd.underlying27 rfl (by rw [fcells_size]; exact sizeFl) (fun _ => ?_)
  simp only [Act.put, List.setIfInBounds_toArray, List.set_cons_zero, List.set_cons_succ]
  refine rel_call (.agg (fcells f)) 10 #[.agg (fcells f)] rfl rfl rfl rfl (enters_of Tryd.func10 (by kernel_rfl) rfl) (fun w' _ => toField f w') (fun _ => ?_)
  simp only [Act.put, List.setIfInBounds_toArray, List.set_cons_zero, List.set_cons_succ]
  refine rel_load 25 _ rfl (w.heap.size + 1) (0) rfl (acells .i16 100 g) _ rfl rfl (fun w' hw' => (hw'.1.at 1 rfl).whole) Tryd.underlying25 rfl (by rw [acells_size]; exact sizeL16) (fun _ => ?_)
  simp only [Act.put, List.setIfInBounds_toArray, List.set_cons_zero, List.set_cons_succ]
  refine rel_call (.agg (acells .i16 100 g)) 11 #[.agg (acells .i16 100 g)] rfl rfl rfl rfl (enters_of Tryd.func11 (by kernel_rfl) rfl) (fun w' _ => toFears g w') (fun _ => ?_)
  simp only [Act.put, List.setIfInBounds_toArray, List.set_cons_zero, List.set_cons_succ]
  refine rel_val _ rfl rfl (fun _ _ => rfl) (fun _ => ?_)
  simp only [Act.put, List.setIfInBounds_toArray, List.set_cons_zero, List.set_cons_succ]
  refine rel_callP _ 23 #[.slice s z c] rfl rfl rfl rfl (enters_of Tryd.func23 (by kernel_rfl) rfl) (fun w' hw' => (Fto_any z q F s c w' (HI.out.later hw'.1.below)).mono (fun e w2 h => by
    obtain ⟨b, rfl, I, _, _, hb⟩ := h
    exact ⟨_, rfl, hb, fun w3 hb3 => ⟨b, rfl, I.later hb3⟩⟩)) (fun v lo_1 hi_1 _ hv => ?_)
  obtain ⟨_, _, b_1, rfl, _⟩ := hv
  simp only [Act.put, List.setIfInBounds_toArray, List.set_cons_zero, List.set_cons_succ]
  refine rel_callKP 5 _ 36 #[.agg (fcells f), .agg (acells .i16 100 g), .slice (some ⟨b_1, 0, none⟩) z z] rfl rfl rfl rfl (enters_of Tryd.func36 (by kernel_rfl) rfl) rfl rfl rfl rfl (fun w' hw' hx => by
    obtain ⟨⟨b9, e9, I9⟩, _⟩ := hx
    obtain rfl : b_1 = b9 := by simpa using e9
    exact (HS.out b_1 w' I9).mono (fun e w2 h => by
    obtain ⟨p, c, he, hv, hw, hb⟩ := h
    exact ⟨_, he, hb, fun w3 hb3 => ⟨p, c, rfl, hv.later hb3⟩⟩)) (fun v lo1 hi1 hle1 hv => ?_)
  obtain ⟨_, _, p1, c1, rfl, _⟩ := hv
  simp only [Act.put, List.setIfInBounds_toArray, List.set_cons_zero, List.set_cons_succ]
  refine rel_read id (.tuple #[.slice p1 rn c1, .int .i64 rc]) rfl (by simp [readBy, Op.operands, Act.eval, tupAt]) rfl (fun _ _ => rfl) (fun _ => ?_)
  simp only [Act.put, List.setIfInBounds_toArray, List.set_cons_zero, List.set_cons_succ]
  refine rel_read (tupAt 0) (.slice p1 rn c1) rfl (by simp [readBy, Op.operands, Act.eval, tupAt]) rfl (fun _ _ => rfl) (fun _ => ?_)
  simp only [Act.put, List.setIfInBounds_toArray, List.set_cons_zero, List.set_cons_succ]
  refine rel_read (tupAt 1) (.int .i64 rc) rfl (by simp [readBy, Op.operands, Act.eval, tupAt]) rfl (fun _ _ => rfl) (fun _ => ?_)
  simp only [Act.put, List.setIfInBounds_toArray, List.set_cons_zero, List.set_cons_succ]
  refine rel_read id (.slice p1 rn c1) rfl (by simp [readBy, Op.operands, Act.eval, tupAt]) rfl (fun _ _ => rfl) (fun _ => ?_)
  simp only [Act.put, List.setIfInBounds_toArray, List.set_cons_zero, List.set_cons_succ]
  refine rel_read id (.int .i64 rc) rfl (by simp [readBy, Op.operands, Act.eval, tupAt]) rfl (fun _ _ => rfl) (fun _ => ?_)
  simp only [Act.put, List.setIfInBounds_toArray, List.set_cons_zero, List.set_cons_succ]
  refine rel_nil (fun W1 inv => ?_)
  obtain ⟨a1, x1, y1, ⟨_, _, e1, V1⟩, _⟩ := inv.fact 6 _ rfl
  have a1 : W.heap.size ≤ lo1 := a1
  have z1 : W.heap.size ≤ W1.heap.size := inv.ge
  obtain ⟨rfl, rfl⟩ : p1 = _ ∧ c1 = _ := by simpa using e1
  clear e1
  have M1 := inv.cls.1
  have B1 := inv.cls.2
  clear inv
  clear M B1
  have H1 := Lib.hid V1
  clear V1
  go_upto_region 7 with (go_at_call 23; refine (Fto_any z q F s c _ (HI.out.later M1.below)).mono ?_; rintro e W2 ⟨b2, rfl, i2, v2, u2, hb2⟩; have M2 := M1.call hb2; have z2 := hb2.size; have H2 := Lib.hid (H1.out.later hb2); have I2 := Lib.hid i2; have V2 := Lib.hid v2; have U2 := Lib.hid u2; clear hb2 i2 v2 u2 M1 H1)
  refine wp_region_rel (DL [dV (.agg (fcells f)), dV (.agg (fcells f)), dV (.agg (acells .i16 100 g)), dV (.agg (acells .i16 100 g)), dV (.slice (some ⟨b2, 0, none⟩) z z), dP (fun v lo hi w9 => ∃ p c, v = .tuple #[.slice p rn c, .int .i64 rc] ∧ NV lo hi w9 p rn bv ∧ NW lo hi w9 p rn), dR id, dR (tupAt 0), dR (tupAt 1), dR id, dR id]) (fun w' => (Mem w w' [⟨w.heap.size, fcells f, 27⟩, ⟨w.heap.size + 1, acells .i16 100 g, 25⟩]) ∧ Below W2.heap.size W2 w') (by kernel_rfl) (by kernel_rfl) grows_memB
    (stays_DL (fun d hd => by
      simp only [List.mem_cons, List.mem_nil_iff, or_false] at hd
      rcases hd with rfl | rfl | rfl | rfl | rfl | rfl | rfl | rfl | rfl | rfl | rfl <;> first | exact stay_V | exact stay_P | exact stay_R)) ⟨M2.drew, (Below.refl _ _).drew⟩ ?_
  refine rel_load 27 _ rfl (w.heap.size) (0) rfl (fcells f) _ rfl rfl (fun w' hw' => (hw'.1.at 0 rfl).whole) Tryd.underlying27 rfl (by rw [fcells_size]; exact sizeFl) (fun _ => ?_)
  simp only [Act.put, List.setIfInBounds_toArray, List.set_cons_zero, List.set_cons_succ]
  refine rel_call (.agg (fcells f)) 10 #[.agg (fcells f)] rfl rfl rfl rfl (enters_of Tryd.func10 (by kernel_rfl) rfl) (fun w' _ => toField f w') (fun _ => ?_)
  simp only [Act.put, List.setIfInBounds_toArray, List.set_cons_zero, List.set_cons_succ]
  refine rel_load 25 _ rfl (w.heap.size + 1) (0) rfl (acells .i16 100 g) _ rfl rfl (fun w' hw' => (hw'.1.at 1 rfl).whole) Tryd.underlying25 rfl (by rw [acells_size]; exact sizeL16) (fun _ => ?_)
  simp only [Act.put, List.setIfInBounds_toArray, List.set_cons_zero, List.set_cons_succ]
  refine rel_call (.agg (acells .i16 100 g)) 11 #[.agg (acells .i16 100 g)] rfl rfl rfl rfl (enters_of Tryd.func11 (by kernel_rfl) rfl) (fun w' _ => toFears g w') (fun _ => ?_)
  simp only [Act.put, List.setIfInBounds_toArray, List.set_cons_zero, List.set_cons_succ]
  refine rel_val _ rfl rfl (fun _ _ => rfl) (fun _ => ?_)
  simp only [Act.put, List.setIfInBounds_toArray, List.set_cons_zero, List.set_cons_succ]
  refine rel_callP _ 37 #[.agg (fcells f), .agg (acells .i16 100 g), .slice (some ⟨b2, 0, none⟩) z z] rfl rfl rfl rfl (enters_of Tryd.func37 (by kernel_rfl) rfl) (fun w' hw' => (HP.out b2 w' (T.out.later hw'.1.below) (S.out.later hw'.1.below) (I2.out.later hw'.2)).mono (fun e w2 h => by
    obtain ⟨p, c, he, hv, hw, hb⟩ := h
    exact ⟨_, he, hb, fun w3 hb3 => ⟨p, c, rfl, hv.later hb3, hw.later hb3⟩⟩)) (fun v lo3 hi3 hle3 hv => ?_)
  obtain ⟨_, _, p3, c3, rfl, _⟩ := hv
  simp only [Act.put, List.setIfInBounds_toArray, List.set_cons_zero, List.set_cons_succ]
  refine rel_read id (.tuple #[.slice p3 rn c3, .int .i64 rc]) rfl (by simp [readBy, Op.operands, Act.eval, tupAt]) rfl (fun _ _ => rfl) (fun _ => ?_)
  simp only [Act.put, List.setIfInBounds_toArray, List.set_cons_zero, List.set_cons_succ]
  refine rel_read (tupAt 0) (.slice p3 rn c3) rfl (by simp [readBy, Op.operands, Act.eval, tupAt]) rfl (fun _ _ => rfl) (fun _ => ?_)
  simp only [Act.put, List.setIfInBounds_toArray, List.set_cons_zero, List.set_cons_succ]
  refine rel_read (tupAt 1) (.int .i64 rc) rfl (by simp [readBy, Op.operands, Act.eval, tupAt]) rfl (fun _ _ => rfl) (fun _ => ?_)
  simp only [Act.put, List.setIfInBounds_toArray, List.set_cons_zero, List.set_cons_succ]
  refine rel_read id (.slice p3 rn c3) rfl (by simp [readBy, Op.operands, Act.eval, tupAt]) rfl (fun _ _ => rfl) (fun _ => ?_)
  simp only [Act.put, List.setIfInBounds_toArray, List.set_cons_zero, List.set_cons_succ]
  refine rel_read id (.int .i64 rc) rfl (by simp [readBy, Op.operands, Act.eval, tupAt]) rfl (fun _ _ => rfl) (fun _ => ?_)
  simp only [Act.put, List.setIfInBounds_toArray, List.set_cons_zero, List.set_cons_succ]
  refine rel_nil (fun W3 inv => ?_)
  obtain ⟨a3, x3, y3, ⟨_, _, e3, V3, N3⟩, _⟩ := inv.fact 5 _ rfl
  have a3 : W2.heap.size ≤ lo3 := a3
  have z3 : W2.heap.size ≤ W3.heap.size := inv.ge
  obtain ⟨rfl, rfl⟩ : p3 = _ ∧ c3 = _ := by simpa using e3
  clear e3
  have M3 := inv.cls.1
  have B3 := inv.cls.2
  clear inv
  have H3 := Lib.hid (H2.out.later B3)
  have G3 := Lib.hid V3
  have K3 := Lib.hid N3
  have X3 := Lib.hid (V2.out.later B3)
  have U3 := Lib.hid (U2.out.later B3)
  clear V3 N3 B3 H2 I2 V2 U2 M2
  go_upto_region 10 with (go_at_call 29; refine (Neq_J _ hrb _ _ _ _ _ _ G3.out.j H3.out.j).mono ?_; rintro e W4 ⟨rfl, hb⟩; have M4 := M3.call hb; have z4 := hb.size; have H4 := Lib.hid (H3.out.later hb); have G4 := Lib.hid (G3.out.later hb); have K4 := Lib.hid (K3.out.later hb); have X4 := Lib.hid (X3.out.later hb); have U4 := Lib.hid (U3.out.later hb); clear hb M3 H3 G3 K3 X3 U3)
  go_upto_region 13 with (first
    | (go_at_call 23; refine (Fto_any z q F s c _ (HI.out.later M4.below)).mono ?_; rintro e W5 ⟨b5, rfl, i5, v5, u5, hb⟩; have M5 := M4.call hb; have z5 := hb.size; have H5 := Lib.hid (H4.out.later hb); have G5 := Lib.hid (G4.out.later hb); have K5 := Lib.hid (K4.out.later hb); have X5 := Lib.hid (X4.out.later hb); have U5 := Lib.hid (U4.out.later hb); have Y5 := Lib.hid v5; clear hb i5 v5 u5 M4 H4 G4 K4 X4 U4)
    | (go_at_call 25; refine (Feq_J _ q _ _ _ _ _ _ X5.out.j Y5.out.j).mono ?_; rintro e W6 ⟨rfl, hb⟩; have M6 := M5.call hb; have z6 := hb.size; have H6 := Lib.hid (H5.out.later hb); have G6 := Lib.hid (G5.out.later hb); have K6 := Lib.hid (K5.out.later hb); have U6 := Lib.hid (U5.out.later hb); clear hb M5 H5 G5 K5 X5 U5 Y5))
  go_upto_region 14 with (go_at_call 26; refine (Fmark_any _ q (1) (by omega) _ _ _ U6.out).mono ?_; rintro e W7 ⟨rfl, hm, v0⟩; have M7 := FMem.marked M6 hm (by omega) (fun i e h => Or.inl (Nat.lt_of_lt_of_le (HM0.out i e h) (by omega))); have z7 := hm.size; have H7 := Lib.hid (H6.out.marked hm (by omega)); have G7 := Lib.hid (G6.out.marked hm (by omega)); have K7 := Lib.hid (K6.out.marked hm (by omega)); clear hm v0 M6 H6 G6 K6 U6)
  go_upto_region 17 with (go_at_call 29; refine (Neq_J _ hrb _ _ _ _ _ _ G7.out.j H7.out.j).mono ?_; rintro e W8 ⟨rfl, hb⟩; have M8 := M7.call hb; have z8 := hb.size; have H8 := Lib.hid (H7.out.later hb); have K8 := Lib.hid (K7.out.later hb); clear hb M7 H7 G7 K7)
  go_upto_region 19 with (go_at_call 30; refine (Nmark_any _ hrb (1) (by omega) _ _ _ K8.out).mono ?_; rintro e W9 ⟨rfl, hm, v0⟩; have M9 := NMem.marked M8 hm (by omega) (fun i e h => Or.inl (Nat.lt_of_lt_of_le (HM0.out i e h) (by omega))); have z9 := hm.size; have H9 := Lib.hid (H8.out.marked hm (by omega)); have V9 := Lib.hid v0; clear hm v0 M8 H8 K8)
  go_upto_region 24 with (go_at_call 31; refine (Nheld_any _ hrb (1) (by omega) _ _ _ V9.out).mono ?_; rintro e W10 ⟨rfl, hb⟩; have M10 := M9.call hb; have z10 := hb.size; have H10 := Lib.hid (H9.out.later hb); have V10 := Lib.hid (V9.out.later hb); clear hb M9 H9 V9)
  refine wp_region_rel (DL [dV (.agg (fcells f)), dV (.agg (fcells f)), dV (.agg (acells .i16 100 g)), dV (.agg (acells .i16 100 g)), dV (.slice s z c), dP (fun v lo hi w9 => ∃ b, v = .slice (some ⟨b, 0, none⟩) z z ∧ InS w9 b 0 z ksFlock F), dP (fun v lo hi w9 => ∃ p c, v = .tuple #[.slice p rn c, .int .i64 rc] ∧ NV lo hi w9 p rn bv), dR id, dR (tupAt 0), dR (tupAt 1), dR id, dR id]) (fun w' => (Mem w w' [⟨w.heap.size, fcells f, 27⟩, ⟨w.heap.size + 1, acells .i16 100 g, 25⟩]) ∧ Below W10.heap.size W10 w') (by kernel_rfl) (by kernel_rfl) grows_memB
    (stays_DL (fun d hd => by
      simp only [List.mem_cons, List.mem_nil_iff, or_false] at hd
      rcases hd with rfl | rfl | rfl | rfl | rfl | rfl | rfl | rfl | rfl | rfl | rfl | rfl <;> first | exact stay_V | exact stay_P | exact stay_R)) ⟨M10.drew, (Below.refl _ _).drew⟩ ?_
  refine rel_load 27 _ rfl (w.heap.size) (0) rfl (fcells f) _ rfl rfl (fun w' hw' => (hw'.1.at 0 rfl).whole) Tryd.underlying27 rfl (by rw [fcells_size]; exact sizeFl) (fun _ => ?_)
  simp only [Act.put, List.setIfInBounds_toArray, List.set_cons_zero, List.set_cons_succ]
  refine rel_call (.agg (fcells f)) 10 #[.agg (fcells f)] rfl rfl rfl rfl (enters_of Tryd.func10 (by kernel_rfl) rfl) (fun w' _ => toField f w') (fun _ => ?_)
  simp only [Act.put, List.setIfInBounds_toArray, List.set_cons_zero, List.set_cons_succ]
  refine rel_load 25 _ rfl (w.heap.size + 1) (0) rfl (acells .i16 100 g) _ rfl rfl (fun w' hw' => (hw'.1.at 1 rfl).whole) Tryd.underlying25 rfl (by rw [acells_size]; exact sizeL16) (fun _ => ?_)
  simp only [Act.put, List.setIfInBounds_toArray, List.set_cons_zero, List.set_cons_succ]
  refine rel_call (.agg (acells .i16 100 g)) 11 #[.agg (acells .i16 100 g)] rfl rfl rfl rfl (enters_of Tryd.func11 (by kernel_rfl) rfl) (fun w' _ => toFears g w') (fun _ => ?_)
  simp only [Act.put, List.setIfInBounds_toArray, List.set_cons_zero, List.set_cons_succ]
  refine rel_val _ rfl rfl (fun _ _ => rfl) (fun _ => ?_)
  simp only [Act.put, List.setIfInBounds_toArray, List.set_cons_zero, List.set_cons_succ]
  refine rel_callP _ 23 #[.slice s z c] rfl rfl rfl rfl (enters_of Tryd.func23 (by kernel_rfl) rfl) (fun w' hw' => (Fto_any z q F s c w' (HI.out.later hw'.1.below)).mono (fun e w2 h => by
    obtain ⟨b, rfl, I, _, _, hb⟩ := h
    exact ⟨_, rfl, hb, fun w3 hb3 => ⟨b, rfl, I.later hb3⟩⟩)) (fun v lo_11 hi_11 _ hv => ?_)
  obtain ⟨_, _, b_11, rfl, _⟩ := hv
  simp only [Act.put, List.setIfInBounds_toArray, List.set_cons_zero, List.set_cons_succ]
  refine rel_callKP 5 _ 37 #[.agg (fcells f), .agg (acells .i16 100 g), .slice (some ⟨b_11, 0, none⟩) z z] rfl rfl rfl rfl (enters_of Tryd.func37 (by kernel_rfl) rfl) rfl rfl rfl rfl (fun w' hw' hx => by
    obtain ⟨⟨b9, e9, I9⟩, _⟩ := hx
    obtain rfl : b_11 = b9 := by simpa using e9
    exact (HP.out b_11 w' (T.out.later hw'.1.below) (S.out.later hw'.1.below) I9).mono (fun e w2 h => by
    obtain ⟨p, c, he, hv, hw, hb⟩ := h
    exact ⟨_, he, hb, fun w3 hb3 => ⟨p, c, rfl, hv.later hb3⟩⟩)) (fun v lo11 hi11 hle11 hv => ?_)
  obtain ⟨_, _, p11, c11, rfl, _⟩ := hv
  simp only [Act.put, List.setIfInBounds_toArray, List.set_cons_zero, List.set_cons_succ]
  refine rel_read id (.tuple #[.slice p11 rn c11, .int .i64 rc]) rfl (by simp [readBy, Op.operands, Act.eval, tupAt]) rfl (fun _ _ => rfl) (fun _ => ?_)
  simp only [Act.put, List.setIfInBounds_toArray, List.set_cons_zero, List.set_cons_succ]
  refine rel_read (tupAt 0) (.slice p11 rn c11) rfl (by simp [readBy, Op.operands, Act.eval, tupAt]) rfl (fun _ _ => rfl) (fun _ => ?_)
  simp only [Act.put, List.setIfInBounds_toArray, List.set_cons_zero, List.set_cons_succ]
  refine rel_read (tupAt 1) (.int .i64 rc) rfl (by simp [readBy, Op.operands, Act.eval, tupAt]) rfl (fun _ _ => rfl) (fun _ => ?_)
  simp only [Act.put, List.setIfInBounds_toArray, List.set_cons_zero, List.set_cons_succ]
  refine rel_read id (.slice p11 rn c11) rfl (by simp [readBy, Op.operands, Act.eval, tupAt]) rfl (fun _ _ => rfl) (fun _ => ?_)
  simp only [Act.put, List.setIfInBounds_toArray, List.set_cons_zero, List.set_cons_succ]
  refine rel_read id (.int .i64 rc) rfl (by simp [readBy, Op.operands, Act.eval, tupAt]) rfl (fun _ _ => rfl) (fun _ => ?_)
  simp only [Act.put, List.setIfInBounds_toArray, List.set_cons_zero, List.set_cons_succ]
  refine rel_nil (fun W11 inv => ?_)
  obtain ⟨a11, x11, y11, ⟨_, _, e11, V11⟩, _⟩ := inv.fact 6 _ rfl
  have a11 : W10.heap.size ≤ lo11 := a11
  have z11 : W10.heap.size ≤ W11.heap.size := inv.ge
  obtain ⟨rfl, rfl⟩ : p11 = _ ∧ c11 = _ := by simpa using e11
  clear e11
  have M11 := inv.cls.1
  have B11 := inv.cls.2
  clear inv
  have H11 := Lib.hid (H10.out.later B11)
  have G11 := Lib.hid V11
  have U11 := Lib.hid (V10.out.later B11)
  clear V11 B11 H10 V10 M10
  go_upto_region 28 with (go_at_call 29; refine (Neq_J _ hrb _ _ _ _ _ _ G11.out.j H11.out.j).mono ?_; rintro e W12 ⟨rfl, hb⟩; have M12 := M11.call hb; have U12 := Lib.hid (U11.out.later hb); clear hb M11 U11 G11 H11)
  go_wp2_with (go_at_call 31; refine (Nheld_any _ hrb (1) (by omega) _ _ _ U12.out).mono ?_; rintro e W13 ⟨rfl, hb⟩; have M13 := M12.call hb; clear hb M12 U12)
  go_ret
  exact ⟨rfl, M13.below⟩
theorem trodVars_len {H : Type} {enc : TypeId × Value → H} {P : Program} {w : World} {sp : Nat → Bool} : ∀ {ns : List String} {gs : List (DataW H)} {ps : List MemPlace}, DataW.TrodVars enc P w sp ns gs ps → gs.length = ns.length
  | [], [], _, _ => rfl
  | [], _ :: _, _, h => h.elim
  | _ :: _, [], _, h => h.elim
  | _ :: _, _ :: _, _, ⟨_, _, _, _, _, _, _, _, _, _, h, _⟩ => congrArg (· + 1) (trodVars_len h)
theorem door_met (os : Os) (args : Array Value) : laidMetH Tryd.prog Rows.fnExactStillHungryRow.laid ((World.doorLaid Tryd.prog 400 os).forCall (fun _ _ => 0) ⟨#[], args, []⟩).memory :=
  laidMetH_of_parts3 (fuel := 8) (laidMet_of_run' 8 (by kernel_rfl) (by kernel_rfl)) (by kernel_rfl) (by kernel_rfl)
set_option maxRecDepth 100000 in
theorem lifted (os : Os) (started : os.Started) (H : Type) (enc : TypeId × Value → H) :
    ReturnsInHanded {} Tryd.checked os 8 .any (fun w args => (Rows.fnExactStillHungrySpec.pre enc Tryd.prog Tryd.f8 Rows.fnExactStillHungryRow.domain false w args ∧ laidMetH Tryd.prog Rows.fnExactStillHungryRow.laid w) ∧ sizedMet enc Tryd.prog Tryd.f8 (OpenSpec.ofChange Rows.fnExactStillHungrySpec) false w args) (Rows.fnExactStillHungrySpec.post enc Tryd.prog Tryd.f8 false true false false) := by
  refine returnsInHanded_of_change_and (C := Tryd.checked) (X := fun w _ => laidMetH Tryd.prog Rows.fnExactStillHungryRow.laid w) (fun _ _ _ hh h => h.of_heap hh) own started (by kernel_rfl) Tryd.func8
    (ChangeSpec.witness_shaped (enc := enc) (C := Tryd.checked) (os := os) (X := fun w _ => laidMetH Tryd.prog Rows.fnExactStillHungryRow.laid w) false (World.doorLaid Tryd.prog 400 os) #[.agg (fcells Fd.zero), .agg (acells .i16 100 (fun _ => 0)), .slice none 0 0] 8 rfl (World.shaped_of_RefB (by kernel_rfl) (by kernel_rfl)) (by kernel_rfl) (by kernel_rfl) (by kernel_rfl) (door_met os _)) ?_
  intro W base args ds gs before hval0 hW _ _ hL _
  have hval : ∀ (j : Nat) t v, Tryd.f8.params[j]? = some t → args[j]? = some v → Value.okWide Tryd.prog W .any base t v := hval0
  have hW' := hW
  obtain ⟨p, q, hA0, hV0, rfl, hfz, hnd⟩ := hW
  have hA : DataW.TrodAll enc Tryd.prog W 0 (fun _ => true) true Tryd.f8.params.toList args.toList ds p := hA0
  have hV : DataW.TrodVars enc Tryd.prog W (fun _ => true) Rows.fnExactStillHungrySpec.vars gs q := hV0
  rw [Tryd.params8] at hA hval
  obtain ⟨v0, vs0, d0, ds0, p0, q0, hargs, rfl, rfl, h0, r0⟩ := trodAll_cons hA
  obtain ⟨v1, vs1, d1, ds1, p1, q1, rfl, rfl, rfl, h1, r1⟩ := trodAll_cons r0
  obtain ⟨v2, vs2, d2, ds2, p2, q2, rfl, rfl, rfl, h2, r2⟩ := trodAll_cons r1
  obtain ⟨rfl, rfl, rfl⟩ := trodAll_nil r2
  obtain rfl : args = #[v0, v1, v2] := by cases args; simp_all
  rw [MakeChecks.laidMetH_plain _ _ _ (by kernel_rfl)] at hL
  obtain ⟨A, SV⟩ := sentVars (rest := [(tabName, Rows.laid_loop_example_g01338_impl_mostOfFlock)]) hL
  have T : TabAt W := by
    obtain ⟨ps, hv, _, _⟩ := hL
    obtain ⟨_, _, _, _, _, _, _, _, _, _, hv, _⟩ := hv
    obtain ⟨_, _, _, _, _, _, _, _, _, _, hv, _⟩ := hv
    obtain ⟨_, _, _, _, _, _, _, _, _, _, hv, _⟩ := hv
    obtain ⟨_, _, _, _, _, _, _, _, _, _, hv, _⟩ := hv
    obtain ⟨_, _, _, _, _, _, _, _, _, _, hv, _⟩ := hv
    obtain ⟨_, _, _, _, _, _, _, _, _, _, hv, _⟩ := hv
    obtain ⟨_, _, _, _, _, _, _, _, _, _, hv, _⟩ := hv
    obtain ⟨_, _, _, _, _, _, _, _, _, _, hv, _⟩ := hv
    exact tab_of hv
  have hlen := trodVars_len hV
  obtain ⟨gv1, gv2, gv3, gv4, gv5, gv6, gv7, gv8, gv9, rfl⟩ : ∃ gv1 gv2 gv3 gv4 gv5 gv6 gv7 gv8 gv9, gs = [gv1, gv2, gv3, gv4, gv5, gv6, gv7, gv8, gv9] := by
    match gs, hlen with
    | [gv1, gv2, gv3, gv4, gv5, gv6, gv7, gv8, gv9], _ => exact ⟨gv1, gv2, gv3, gv4, gv5, gv6, gv7, gv8, gv9, rfl⟩
  have k0 := h0
  have lt0 : ∀ x ∈ p0, x.block < W.heap.size := by obtain ⟨m, hm⟩ := k0; exact DataW.trod_lt m _ _ _ hm
  have k1 := h1
  have lt1 : ∀ x ∈ p1, x.block < W.heap.size := by obtain ⟨m, hm⟩ := k1; exact DataW.trod_lt m _ _ _ hm
  have k2 := h2
  have lt2 : ∀ x ∈ p2, x.block < W.heap.size := by obtain ⟨m, hm⟩ := k2; exact DataW.trod_lt m _ _ _ hm
  obtain ⟨f0, rfl, hf0⟩ := open_field (fs := Tryd.prog.fieldsOf 27) (by kernel_rfl) (by kernel_rfl) Tryd.underlying22 Tryd.underlying23 Tryd.underlying5 Tryd.underlying25 Tryd.underlying24 (by kernel_rfl) (by kernel_rfl) (by kernel_rfl) (by kernel_rfl) (by kernel_rfl) (by kernel_rfl) (hval 0 27 v0 rfl rfl) h0
  obtain ⟨f1, rfl, hf1⟩ := open_row (q := .i16) Tryd.underlying25 Tryd.underlying24 (by kernel_rfl) (by kernel_rfl) (hval 1 25 v1 rfl rfl) h1
  obtain ⟨s2, z2, c2, G2, rfl, hz2, hi2, hg2⟩ := open_ints (ks := ksFlock) (fs := Tryd.prog.fieldsOf 29) Tryd.underlying48 (by kernel_rfl) (by decide) (by kernel_rfl) (by kernel_rfl) (hval 2 48 v2 rfl rfl) h2
  clear hA0 hval0 hV0
  refine (walk W f0 hf0 f1 hf1 s2 z2 c2 G2 (by simpa [maxLen] using hz2) hi2 hg2 A T SV.sents).mono fun e W' ⟨he, bel⟩ => ?_
  subst he
  exact ⟨_, rfl, _, _, _, [], _, _, hW', trodAll_mk1 (shut_bool Tryd.underlying4 _), (trodAll_cons_mk (Below.trod laidOut (by kernel_rfl) (of_decide_eq_true (by kernel_rfl)) k0 bel lt0) (trodAll_cons_mk (Below.trod laidOut (by kernel_rfl) (of_decide_eq_true (by kernel_rfl)) k1 bel lt1) (trodAll_cons_mk (Below.trod laidOut (by kernel_rfl) (of_decide_eq_true (by kernel_rfl)) k2 bel lt2) trodAll_mk0))), Below.trodVars laidOut bel (by kernel_rfl) hV, bel.frame _, fun h => by cases h⟩

theorem over : Rows.fnExactStillHungryRow.holds Tryd.pinned (OpenSpec.ofChange Rows.fnExactStillHungrySpec) :=
  OpenClaim.holds_of_wide 8 Tryd.f8 rfl rfl rfl rfl rfl rfl rfl ⟨rfl, rfl, rfl, rfl, rfl⟩ rfl rfl rfl rfl rfl (by kernel_rfl) Tryd.func8 (by kernel_rfl)
    (of_decide_eq_true (by kernel_rfl)) (by unfold Func.isWrapper; first | (rw [if_pos (by decide +kernel)]; kernel_rfl) | (rw [if_neg (by decide +kernel)]; exact ⟨rfl, rfl⟩))
    (fun os started H enc _ => lifted os started H enc)
theorem proved : Rows.FnExactStillHungryCardSaid :=
  Claim7.holds_tied_plain_at .later [] [.sentinel, .sentinel, .sentinel, .sentinel, .sentinel, .sentinel, .sentinel, .sentinel, .data] true (true, "12764da00c9b4c602e80c2758c989fcc8950fe1572823cb35943fe2ef56628fc") true
    over (fun _ h => by cases h) (by kernel_rfl) (fun _ h => by cases h) fnExactStillHungry_row_tie rfl ⟨rfl, rfl⟩ (by kernel_rfl) rfl
    (fun f fn hf hfn => by
      obtain rfl : f = 8 := Option.some.inj ((show Tryd.prog.funcNamed "loop.example/g01338/laws.FnExactStillHungry" = some 8 by kernel_rfl).symm.trans hf) |>.symm
      obtain rfl : fn = Tryd.f8 := (Option.some.inj (Tryd.func8.symm.trans hfn)).symm
      exact ⟨by kernel_rfl, fun j t ht => by
        rw [Tryd.params8] at ht
        have hm : t ∈ [27, 25, 48] := by simpa using Array.mem_of_getElem? ht
        have hall : ([27, 25, 48].all fun u => !Tryd.prog.wantsStandIn u) = true := by kernel_rfl
        exact (show Tryd.prog.wantsStandIn t = false by simpa using List.all_eq_true.1 hall t hm)⟩)
    (by kernel_rfl)
#print axioms proved
end Go.Proofs.YtaioflkonpommaaDoor.lawStillHungry
