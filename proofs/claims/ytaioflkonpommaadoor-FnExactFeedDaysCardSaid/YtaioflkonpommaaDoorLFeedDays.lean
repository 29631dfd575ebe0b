/-
  FeedDays: for every field (valid or not) and all further arguments the program answers as the model does, its memory is its own, and the flocks stay as they are: no condition beyond the listed variables, which the card ties to the program's text.
-/
import Derived.Test.YtaioflkonpommaaDoorDy
import Derived.Test.YtaioflkonpommaaDoorFears2
import Derived.Test.YtaioflkonpommaaDoorLstM
import Derived.Test.YtaioflkonpommaaDoorEqF
import Derived.Test.YtaioflkonpommaaDoorTab
import Derived.Test.YtaioflkonpommaaDoorCoreB
import Derived.Test.YtaioflkonpommaaDoorRelR
import Derived.Test.YtaioflkonpommaaDoorLawh
import Derived.Test.YtaioflkonpommaaDoorCard
import Derived.Test.YtaioflkonpommaaDoorTie
import Derived.Test.YtaioflkonpommaaDoorCards
import Derived.SevenTiedAt
import Derived.OpenVars
namespace Go.Proofs.YtaioflkonpommaaDoor.lawFeedDays
open Go Go.ChangeShapes Go.WideShapes Go.ChangeAt Go.RowKit

theorem sizeL16 : (Tryd.prog.info? 25).map (·.size) = some 100 := by kernel_rfl
theorem marks_row (w : World) (b : Nat) (cs : Array Value) : NMarks b (b + 1) w (w.setRow b cs) := .inr ⟨b, Nat.le_refl _, Nat.lt_succ_self _, grown_row w b cs, by simp⟩
set_option maxRecDepth 100000 in
set_option maxHeartbeats 16000000 in
theorem walk (w : World) (f : Fd) (hff : f.Wf) (g : Nat → Int) (hvg : ∀ i, i < 100 → (Lit.int .i16 (g i)).wf = true) (s : Option Addr) (z c : Nat) (F : Nat → Nat → Int) (hz : z ≤ 2 ^ 63 - 1) (hi : InA ksFlock w s z F) (hg9 : WfS ksFlock z F) (x : Int) (_wx : (Lit.int .i64 x).wf = true) (A : Nat → Addr) (T0 : TabAt w) (S0 : Sents w A) : Calls Tryd.prog 6 #[.agg (fcells f), .agg (acells .i16 100 g), .slice s z c, .int .i64 x] w fun e w' => e = .returned (.bool true) ∧ Below w.heap.size w w' := by
  have S : Hid (Sents w A) := Lib.hid S0
  have T : Hid (TabAt w) := Lib.hid T0
  have HI := Lib.hid hi
  have hwg : Wf16 g := fun i hi => bounds_i16 (hvg i hi)
  clear S0 T0 hi hvg _wx
  by_cases hbig : 1048576 < z
  · go_enter Tryd.func6, Tryd.ntmps6
    go_upto_region 1 with (fail)
    obtain ⟨W, hW, M⟩ := open2 w (fcells f) 27 (acells .i16 100 g) 25
    rw [hW]; clear hW
    go_wp2_with (go_at_call 21; refine (szFlockS_any z c (by omega) s _ (by omega) (by omega) (by omega) _).mono ?_; rintro e w9 ⟨rfl, rfl⟩; rw [if_pos (by omega)])
    go_ret
    exact ⟨rfl, M.below⟩
  have q : z ≤ 2 ^ 40 := by omega
  have hzz : Hid (Tryd.zeroCells30.size = 202) := Lib.hid (by rw [zeroFd, fcells_size])
  obtain ⟨hw, hh⟩ := dyQ_size f hff g z F x
  have hrb0 := dyN_le f g z F x
  have HS := Lib.hid (fun b w I => specDays f hff g hwg z q F hg9 x b z w I)
  have HP := Lib.hid (fun b w T S I => implDays f hff g hwg z q F hg9 x b z A w T S I)
  obtain ⟨FF, hFF⟩ : ∃ FF, dyQ f g z F x = FF := ⟨_, rfl⟩
  obtain ⟨cd, hcd⟩ : ∃ cd, dyCode f g z F x = cd := ⟨_, rfl⟩
  obtain ⟨rn, hrn⟩ : ∃ rn, dyN f g z F x = rn := ⟨_, rfl⟩
  obtain ⟨RR, hRR⟩ : ∃ RR, dyE f g z F = RR := ⟨_, rfl⟩
  unfold DyP at HS HP
  rw [hFF, hcd, hrn, hRR] at HS HP
  rw [hFF] at hw hh
  rw [hrn] at hrb0
  have hrb : rn ≤ 2 ^ 40 := by omega
  clear hFF hcd hff hwg hrn hRR hg9
  go_enter Tryd.func6, Tryd.ntmps6
  go_upto_region 1 with (fail)
  obtain ⟨W, hW, M⟩ := open2 w (fcells f) 27 (acells .i16 100 g) 25
  rw [hW]; clear hW
  have z0 : w.heap.size + 1 < W.heap.size := (M.at 1 rfl).lt
  go_upto_region 5 with (go_at_call 21; refine (szFlockS_any z c (by omega) s _ (by omega) (by omega) (by omega) _).mono ?_; rintro e w9 ⟨rfl, rfl⟩; rw [if_neg (by omega)])
  refine wp_region_rel_edges [(13, 10), (13, 11)] 13 (DL [dV (.agg (fcells f)), dV (.agg (fcells f)), dV (.agg (acells .i16 100 g)), dV (.agg (acells .i16 100 g)), dV (.slice s z c), dP (fun v lo hi w9 => ∃ b, v = .slice (some ⟨b, 0, none⟩) z z ∧ InS w9 b 0 z ksFlock F), dV (.int .i64 x), dP (fun v lo hi w9 => ∃ p c, v = .tuple #[.agg (fcells FF), .slice p rn c, .int .i64 cd] ∧ NV lo hi w9 p rn RR), dR id, dV (.agg (fcells FF)), dR (tupAt 1), dV (.int .i64 cd), dB (Tryd.zeroCells30) 30]) (C := fun w' => Mem w w' [⟨w.heap.size, fcells f, 27⟩, ⟨w.heap.size + 1, acells .i16 100 g, 25⟩] ∧ Below W.heap.size W w') (fun _ _ _ _ _ h => h) (by kernel_rfl) (by kernel_rfl) (by kernel_rfl) grows_memB
    (stays_DL (fun d hd => by
      simp only [List.mem_cons, List.mem_nil_iff, or_false] at hd
      rcases hd with rfl | rfl | rfl | rfl | rfl | rfl | rfl | rfl | rfl | rfl | rfl | rfl | rfl <;> first | exact stay_V | exact stay_P | exact stay_R | exact stay_B)) ⟨M.drew, (Below.refl _ _).drew⟩ ?_
  refine rel_load 27 _ rfl (w.heap.size) (0) rfl (fcells f) _ rfl rfl (fun w' hw' => (hw'.1.at 0 rfl).whole) Tryd.underlying27 rfl (by rw [fcells_size]; exact sizeFl) (fun _ => ?_)
  simp only [Act.put, List.setIfInBounds_toArray, List.set_cons_zero, List.set_cons_succ]
  refine rel_call (.agg (fcells f)) 10 #[.agg (fcells f)] rfl rfl rfl rfl (enters_of Tryd.func10 (by kernel_rfl) rfl) (fun w' _ => toField f w') (fun _ => ?_)
  simp only [Act.put, List.setIfInBounds_toArray, List.set_cons_zero, List.set_cons_succ]
  refine rel_load 25 _ rfl (w.heap.size + 1) (0) rfl (acells .i16 100 g) _ rfl rfl (fun w' hw' => (hw'.1.at 1 rfl).whole) Tryd.underlying25 rfl (by rw [acells_size]; exact sizeL16) (fun _ => ?_)
  simp only [Act.put, List.setIfInBounds_toArray, List.set_cons_zero, List.set_cons_succ]
  refine rel_call (.agg (acells .i16 100 g)) 11 #[.agg (acells .i16 100 g)] rfl rfl rfl rfl (enters_of Tryd.func11 (by kernel_rfl) rfl) (fun w' _ => toFears g w') (fun _ => ?_)
  simp only [Act.put, List.setIfInBounds_toArray, List.set_cons_zero, List.set_cons_succ]
  refine rel_val _ rfl rfl (fun _ _ => rfl) (fun _ => ?_)
  simp only [Act.put, List.setIfInBounds_toArray, List.set_cons_zero, List.set_cons_succ]
  refine rel_callP _ 23 #[.slice s z c] rfl rfl rfl rfl (enters_of Tryd.func23 (by kernel_rfl) rfl) (fun w' hw' => (Fto_any z q F s c w' (HI.out.later hw'.1.below)).mono (fun e w2 h => by
    obtain ⟨b, rfl, I, _, _, hb⟩ := h
    exact ⟨_, rfl, hb, fun w3 hb3 => ⟨b, rfl, I.later hb3⟩⟩)) (fun v lo_1 hi_1 _ hv => ?_)
  obtain ⟨_, _, b_1, rfl, _⟩ := hv
  simp only [Act.put, List.setIfInBounds_toArray, List.set_cons_zero, List.set_cons_succ]
  refine rel_val _ rfl rfl (fun _ _ => rfl) (fun _ => ?_)
  simp only [Act.put, List.setIfInBounds_toArray, List.set_cons_zero, List.set_cons_succ]
  refine rel_callKP 5 _ 27 #[.agg (fcells f), .agg (acells .i16 100 g), .slice (some ⟨b_1, 0, none⟩) z z, .int .i64 x] rfl rfl rfl rfl (enters_of Tryd.func27 (by kernel_rfl) rfl) rfl rfl rfl rfl (fun w' hw' hx => by
    obtain ⟨⟨b9, e9, I9⟩, _⟩ := hx
    obtain rfl : b_1 = b9 := by simpa using e9
    exact (HS.out b_1 w' I9).mono (fun e w2 h => by
    obtain ⟨p, c, he, hv, hw, hb⟩ := h
    exact ⟨_, he, hb, fun w3 hb3 => ⟨p, c, rfl, hv.later hb3⟩⟩)) (fun v lo1 hi1 hle1 hv => ?_)
  obtain ⟨_, _, p1, c1, rfl, _⟩ := hv
  simp only [Act.put, List.setIfInBounds_toArray, List.set_cons_zero, List.set_cons_succ]
  refine rel_read id (.tuple #[.agg (fcells FF), .slice p1 rn c1, .int .i64 cd]) rfl (by simp [readBy, Op.operands, Act.eval]) rfl (fun _ _ => rfl) (fun _ => ?_)
  simp only [Act.put, List.setIfInBounds_toArray, List.set_cons_zero, List.set_cons_succ]
  refine rel_val _ rfl rfl (fun _ _ => rfl) (fun _ => ?_)
  simp only [Act.put, List.setIfInBounds_toArray, List.set_cons_zero, List.set_cons_succ]
  refine rel_read (tupAt 1) (.slice p1 rn c1) rfl (by simp [readBy, Op.operands, Act.eval, tupAt]) rfl (fun _ _ => rfl) (fun _ => ?_)
  simp only [Act.put, List.setIfInBounds_toArray, List.set_cons_zero, List.set_cons_succ]
  refine rel_val _ rfl rfl (fun _ _ => rfl) (fun _ => ?_)
  simp only [Act.put, List.setIfInBounds_toArray, List.set_cons_zero, List.set_cons_succ]
  refine rel_alloc (Tryd.zeroCells30) 30 rfl rfl (fun _ => by rfl) (fun n1 => ?_)
  simp only [Act.put, List.setIfInBounds_toArray, List.set_cons_zero, List.set_cons_succ]
  refine rel_nil (fun W1 inv => ?_)
  obtain ⟨a1, x1, y1, ⟨_, _, e1, v1⟩, _⟩ := inv.fact 7 _ rfl
  have a1 : W.heap.size ≤ lo1 := a1
  have x1 : lo1 ≤ hi1 := x1
  have y1 : hi1 ≤ W1.heap.size := y1
  obtain ⟨rfl, rfl⟩ : p1 = _ ∧ c1 = _ := by simpa using e1
  clear e1
  have d1 : hi1 ≤ n1 ∨ n1 + 1 ≤ lo1 := inv.apart 7 12 _ _ rfl rfl (by decide)
  have b1 : W.heap.size ≤ n1 := (inv.fact 12 _ rfl).1
  have MA := inv.mem1 (i := 12) M inv.cls.1 rfl
  have B1 := inv.cls.2
  have z1 := B1.size
  have u1 : n1 < W1.heap.size := (MA.at 2 rfl).lt
  clear inv M
  change wpList _ _ _ (_ :: [_, _]) _ _
  generalize List.toArray (List.foldl addEdge _ _) = ops9
  refine wpList_store_row rfl 30 _ _ rfl n1 (fcells FF) rfl rfl 30 _ (MA.at 2 rfl) (by rw [fcells_size]; exact sizeFd) (by rw [hzz.out, fcells_size]) (fcells_one _) ?_
  have MC := MA.row 2 rfl (fcells FF)
  have hr1 := marks_row W1 n1 (fcells FF)
  have q1 : (W1.setRow n1 (fcells FF)).heap.size = W1.heap.size := by simp
  have H1 := Lib.hid (v1.marked hr1 (by omega))
  clear MA hr1 v1 B1
  generalize World.setRow _ _ _ = V1 at MC H1 q1 ⊢
  have N1 : Mem w V1 [⟨w.heap.size, fcells f, 27⟩, ⟨w.heap.size + 1, acells .i16 100 g, 25⟩, ⟨n1, fcells FF, 30⟩] := MC
  clear MC
  go_upto_region 7 with (go_at_call 23; refine (Fto_any z q F s c _ (HI.out.later N1.below)).mono ?_; rintro e W2 ⟨b2, rfl, i2, v2, u2, hb⟩; have M2 := N1.call hb; have zz2 := hb.size; replace H1 := Lib.hid (H1.out.later hb); have I2 := Lib.hid i2; have X2 := Lib.hid v2; have U2 := Lib.hid u2; clear hb i2 v2 u2 N1)
  refine wp_region_rel_edges [(12, 9), (12, 10)] 12 (DL [dV (.agg (fcells f)), dV (.agg (fcells f)), dV (.agg (acells .i16 100 g)), dV (.agg (acells .i16 100 g)), dV (.slice (some ⟨b2, 0, none⟩) z z), dV (.int .i64 x), dP (fun v lo hi w9 => ∃ p c, v = .tuple #[.agg (fcells FF), .slice p rn c, .int .i64 cd] ∧ NV lo hi w9 p rn RR ∧ NW lo hi w9 p rn), dR id, dV (.agg (fcells FF)), dR (tupAt 1), dV (.int .i64 cd), dB (Tryd.zeroCells30) 30]) (C := fun w' => Mem w w' [⟨w.heap.size, fcells f, 27⟩, ⟨w.heap.size + 1, acells .i16 100 g, 25⟩, ⟨n1, fcells FF, 30⟩] ∧ Below W2.heap.size W2 w') (fun _ _ _ _ _ h => h) (by kernel_rfl) (by kernel_rfl) (by kernel_rfl) grows_memB
    (stays_DL (fun d hd => by
      simp only [List.mem_cons, List.mem_nil_iff, or_false] at hd
      rcases hd with rfl | rfl | rfl | rfl | rfl | rfl | rfl | rfl | rfl | rfl | rfl | rfl <;> first | exact stay_V | exact stay_P | exact stay_R | exact stay_B)) ⟨M2.drew, (Below.refl _ _).drew⟩ ?_
  refine rel_load 27 _ rfl (w.heap.size) (0) rfl (fcells f) _ rfl rfl (fun w' hw' => (hw'.1.at 0 rfl).whole) Tryd.underlying27 rfl (by rw [fcells_size]; exact sizeFl) (fun _ => ?_)
  simp only [Act.put, List.setIfInBounds_toArray, List.set_cons_zero, List.set_cons_succ]
  refine rel_call (.agg (fcells f)) 10 #[.agg (fcells f)] rfl rfl rfl rfl (enters_of Tryd.func10 (by kernel_rfl) rfl) (fun w' _ => toField f w') (fun _ => ?_)
  simp only [Act.put, List.setIfInBounds_toArray, List.set_cons_zero, List.set_cons_succ]
  refine rel_load 25 _ rfl (w.heap.size + 1) (0) rfl (acells .i16 100 g) _ rfl rfl (fun w' hw' => (hw'.1.at 1 rfl).whole) Tryd.underlying25 rfl (by rw [acells_size]; exact sizeL16) (fun _ => ?_)
  simp only [Act.put, List.setIfInBounds_toArray, List.set_cons_zero, List.set_cons_succ]
  refine rel_call (.agg (acells .i16 100 g)) 11 #[.agg (acells .i16 100 g)] rfl rfl rfl rfl (enters_of Tryd.func11 (by kernel_rfl) rfl) (fun w' _ => toFears g w') (fun _ => ?_)
  simp only [Act.put, List.setIfInBounds_toArray, List.set_cons_zero, List.set_cons_succ]
  refine rel_val _ rfl rfl (fun _ _ => rfl) (fun _ => ?_)
  simp only [Act.put, List.setIfInBounds_toArray, List.set_cons_zero, List.set_cons_succ]
  refine rel_val _ rfl rfl (fun _ _ => rfl) (fun _ => ?_)
  simp only [Act.put, List.setIfInBounds_toArray, List.set_cons_zero, List.set_cons_succ]
  refine rel_callP _ 28 #[.agg (fcells f), .agg (acells .i16 100 g), .slice (some ⟨b2, 0, none⟩) z z, .int .i64 x] rfl rfl rfl rfl (enters_of Tryd.func28 (by kernel_rfl) rfl) (fun w' hw' => (HP.out b2 w' (T.out.later hw'.1.below) (S.out.later hw'.1.below) (I2.out.later hw'.2)).mono (fun e w2 h => by
    obtain ⟨p, c, he, hv, hw, hb⟩ := h
    exact ⟨_, he, hb, fun w3 hb3 => ⟨p, c, rfl, hv.later hb3, hw.later hb3⟩⟩)) (fun v lo3 hi3 hle3 hv => ?_)
  obtain ⟨_, _, p3, c3, rfl, _⟩ := hv
  simp only [Act.put, List.setIfInBounds_toArray, List.set_cons_zero, List.set_cons_succ]
  refine rel_read id (.tuple #[.agg (fcells FF), .slice p3 rn c3, .int .i64 cd]) rfl (by simp [readBy, Op.operands, Act.eval]) rfl (fun _ _ => rfl) (fun _ => ?_)
  simp only [Act.put, List.setIfInBounds_toArray, List.set_cons_zero, List.set_cons_succ]
  refine rel_val _ rfl rfl (fun _ _ => rfl) (fun _ => ?_)
  simp only [Act.put, List.setIfInBounds_toArray, List.set_cons_zero, List.set_cons_succ]
  refine rel_read (tupAt 1) (.slice p3 rn c3) rfl (by simp [readBy, Op.operands, Act.eval, tupAt]) rfl (fun _ _ => rfl) (fun _ => ?_)
  simp only [Act.put, List.setIfInBounds_toArray, List.set_cons_zero, List.set_cons_succ]
  refine rel_val _ rfl rfl (fun _ _ => rfl) (fun _ => ?_)
  simp only [Act.put, List.setIfInBounds_toArray, List.set_cons_zero, List.set_cons_succ]
  refine rel_alloc (Tryd.zeroCells30) 30 rfl rfl (fun _ => by rfl) (fun n3 => ?_)
  simp only [Act.put, List.setIfInBounds_toArray, List.set_cons_zero, List.set_cons_succ]
  refine rel_nil (fun W3 inv => ?_)
  obtain ⟨a3, x3, y3, ⟨_, _, e3, v3, n93⟩, _⟩ := inv.fact 6 _ rfl
  have a3 : W2.heap.size ≤ lo3 := a3
  have x3 : lo3 ≤ hi3 := x3
  have y3 : hi3 ≤ W3.heap.size := y3
  obtain ⟨rfl, rfl⟩ : p3 = _ ∧ c3 = _ := by simpa using e3
  clear e3
  have d3 : hi3 ≤ n3 ∨ n3 + 1 ≤ lo3 := inv.apart 6 11 _ _ rfl rfl (by decide)
  have b3 : W2.heap.size ≤ n3 := (inv.fact 11 _ rfl).1
  have MA := inv.mem1 (i := 11) M2 inv.cls.1 rfl
  have B3 := inv.cls.2
  have z3 := B3.size
  have u3 : n3 < W3.heap.size := (MA.at 3 rfl).lt
  clear inv M2
  change wpList _ _ _ (_ :: [_, _]) _ _
  generalize List.toArray (List.foldl addEdge _ _) = ops9
  refine wpList_store_row rfl 30 _ _ rfl n3 (fcells FF) rfl rfl 30 _ (MA.at 3 rfl) (by rw [fcells_size]; exact sizeFd) (by rw [hzz.out, fcells_size]) (fcells_one _) ?_
  have MC := MA.row 3 rfl (fcells FF)
  have hr3 := marks_row W3 n3 (fcells FF)
  have q3 : (W3.setRow n3 (fcells FF)).heap.size = W3.heap.size := by simp
  have H3 := Lib.hid (v3.marked hr3 (by omega))
  have K3 := Lib.hid (n93.marked hr3 (by omega))
  clear n93
  replace H1 := Lib.hid ((H1.out.later B3).marked hr3 (by omega))
  replace X2 := Lib.hid ((X2.out.later B3).marked hr3 (by omega))
  replace U2 := Lib.hid ((U2.out.later B3).marked hr3 (by omega))
  clear MA hr3 v3 B3
  generalize World.setRow _ _ _ = V3 at MC H3 q3 H1 X2 U2 K3 ⊢
  have N3 : Mem w V3 [⟨w.heap.size, fcells f, 27⟩, ⟨w.heap.size + 1, acells .i16 100 g, 25⟩, ⟨n1, fcells FF, 30⟩, ⟨n3, fcells FF, 30⟩] := MC
  clear MC
  clear I2
  have ok1 : True := trivial
  have ok2 : True := trivial
  go_upto_region 10 with (first
    | (clear ok1; refine wpList_load_part rfl 30 _ rfl n3 0 rfl (fcells FF) _ (N3.at 3 rfl).whole Tryd.underlying30 rfl (by rw [fcells_size]; exact sizeFd) ?_)
    | (clear ok2; refine wpList_load_part rfl 30 _ rfl n1 0 rfl (fcells FF) _ (N3.at 2 rfl).whole Tryd.underlying30 rfl (by rw [fcells_size]; exact sizeFd) ?_)
    | (go_at_call 14; refine (eqField_same FF hw hh _).mono ?_; rintro e Xa ⟨rfl, hb⟩; have Ya := N3.call hb; have sa := hb.size; replace H1 := Lib.hid (H1.out.later hb); replace H3 := Lib.hid (H3.out.later hb); replace K3 := Lib.hid (K3.out.later hb); replace X2 := Lib.hid (X2.out.later hb); replace U2 := Lib.hid (U2.out.later hb); clear N3 hb)
    | (go_at_call 29; refine (Neq_J _ hrb _ _ _ _ _ _ H3.out.j H1.out.j).mono ?_; rintro e Pa ⟨rfl, hb⟩; have Ra := Ya.call hb; have ta := hb.size; replace H1 := Lib.hid (H1.out.later hb); replace H3 := Lib.hid (H3.out.later hb); replace K3 := Lib.hid (K3.out.later hb); replace X2 := Lib.hid (X2.out.later hb); replace U2 := Lib.hid (U2.out.later hb); clear Ya hb))
  go_upto_region 13 with (first
    | (go_at_call 23; refine (Fto_any z q F s c _ (HI.out.later Ra.below)).mono ?_; rintro e W4 ⟨b4, rfl, i4, v4, u4, hb⟩; have M4 := Ra.call hb; have zz4 := hb.size; replace H1 := Lib.hid (H1.out.later hb); replace H3 := Lib.hid (H3.out.later hb); replace K3 := Lib.hid (K3.out.later hb); replace X2 := Lib.hid (X2.out.later hb); replace U2 := Lib.hid (U2.out.later hb); have Y4 := Lib.hid v4; clear hb i4 v4 u4 Ra)
    | (go_at_call 25; refine (Feq_J _ q _ _ _ _ _ _ X2.out.j Y4.out.j).mono ?_; rintro e W5 ⟨rfl, hb⟩; have M5 := M4.call hb; have zz5 := hb.size; replace H1 := Lib.hid (H1.out.later hb); replace H3 := Lib.hid (H3.out.later hb); replace K3 := Lib.hid (K3.out.later hb); replace U2 := Lib.hid (U2.out.later hb); clear hb M4 X2 Y4))
  go_upto_region 14 with (go_at_call 26; refine (Fmark_any _ q (1) (by omega) _ _ _ U2.out).mono ?_; rintro e W6 ⟨rfl, hm, v0⟩; have M6 := FMem.marked M5 hm (by omega) (fun i e h => by
      have hmem := List.mem_of_getElem? h
      simp only [List.mem_cons, List.mem_nil_iff, or_false] at hmem
      rcases hmem with rfl | rfl | rfl | rfl <;> simp only <;> omega); have zz6 := hm.size; replace H1 := Lib.hid (H1.out.marked hm (by omega)); replace H3 := Lib.hid (H3.out.marked hm (by omega)); replace K3 := Lib.hid (K3.out.marked hm (by omega)); clear hm v0 M5 U2)
  have ok1 : True := trivial
  have ok2 : True := trivial
  go_upto_region 16 with (first
    | (clear ok1; refine wpList_load_wanted rfl 30 _ rfl n3 0 rfl (fcells FF) _ (M6.at 3 rfl).whole Tryd.underlying30 rfl (by rw [fcells_size]; exact sizeFd) ?_)
    | (clear ok2; refine wpList_load_wanted rfl 30 _ rfl n1 0 rfl (fcells FF) _ (M6.at 2 rfl).whole Tryd.underlying30 rfl (by rw [fcells_size]; exact sizeFd) ?_)
    | (go_at_call 14; refine (eqField_same FF hw hh _).mono ?_; rintro e Xb ⟨rfl, hb⟩; have Yb := M6.call hb; have sb := hb.size; replace H1 := Lib.hid (H1.out.later hb); replace H3 := Lib.hid (H3.out.later hb); replace K3 := Lib.hid (K3.out.later hb); clear M6 hb)
    | (go_at_call 29; refine (Neq_J _ hrb _ _ _ _ _ _ H3.out.j H1.out.j).mono ?_; rintro e Pb ⟨rfl, hb⟩; have Rb := Yb.call hb; have tb := hb.size; replace H1 := Lib.hid (H1.out.later hb); replace K3 := Lib.hid (K3.out.later hb); clear H3; clear Yb hb))
  go_upto_region 18 with (go_at_call 30; refine (Nmark_any _ hrb (1) (by omega) _ _ _ K3.out).mono ?_; rintro e W8 ⟨rfl, hm, v0⟩; have M8 := NMem.marked Rb hm (by omega) (fun i e h => by
      have hmem := List.mem_of_getElem? h
      simp only [List.mem_cons, List.mem_nil_iff, or_false] at hmem
      rcases hmem with rfl | rfl | rfl | rfl <;> simp only <;> omega); have zz8 := hm.size; replace H1 := Lib.hid (H1.out.marked hm (by omega)); have U8 := Lib.hid v0; clear hm v0 Rb K3)
  go_upto_region 24 with (go_at_call 31; refine (Nheld_any _ hrb (1) (by omega) _ _ _ U8.out).mono ?_; rintro e W9 ⟨rfl, hb⟩; have M9 := M8.call hb; have zz9 := hb.size; replace H1 := Lib.hid (H1.out.later hb); replace U8 := Lib.hid (U8.out.later hb); clear hb M8)
  refine wp_region_rel_edges [(13, 10), (13, 11)] 13 (DL [dV (.agg (fcells f)), dV (.agg (fcells f)), dV (.agg (acells .i16 100 g)), dV (.agg (acells .i16 100 g)), dV (.slice s z c), dP (fun v lo hi w9 => ∃ b, v = .slice (some ⟨b, 0, none⟩) z z ∧ InS w9 b 0 z ksFlock F), dV (.int .i64 x), dP (fun v lo hi w9 => ∃ p c, v = .tuple #[.agg (fcells FF), .slice p rn c, .int .i64 cd] ∧ NV lo hi w9 p rn RR), dR id, dV (.agg (fcells FF)), dR (tupAt 1), dV (.int .i64 cd), dB (Tryd.zeroCells30) 30]) (C := fun w' => Mem w w' [⟨w.heap.size, fcells f, 27⟩, ⟨w.heap.size + 1, acells .i16 100 g, 25⟩, ⟨n1, fcells FF, 30⟩, ⟨n3, fcells FF, 30⟩] ∧ Below W9.heap.size W9 w') (fun _ _ _ _ _ h => h) (by kernel_rfl) (by kernel_rfl) (by kernel_rfl) grows_memB
    (stays_DL (fun d hd => by
      simp only [List.mem_cons, List.mem_nil_iff, or_false] at hd
      rcases hd with rfl | rfl | rfl | rfl | rfl | rfl | rfl | rfl | rfl | rfl | rfl | rfl | rfl <;> first | exact stay_V | exact stay_P | exact stay_R | exact stay_B)) ⟨M9.drew, (Below.refl _ _).drew⟩ ?_
  refine rel_load 27 _ rfl (w.heap.size) (0) rfl (fcells f) _ rfl rfl (fun w' hw' => (hw'.1.at 0 rfl).whole) Tryd.underlying27 rfl (by rw [fcells_size]; exact sizeFl) (fun _ => ?_)
  simp only [Act.put, List.setIfInBounds_toArray, List.set_cons_zero, List.set_cons_succ]
  refine rel_call (.agg (fcells f)) 10 #[.agg (fcells f)] rfl rfl rfl rfl (enters_of Tryd.func10 (by kernel_rfl) rfl) (fun w' _ => toField f w') (fun _ => ?_)
  simp only [Act.put, List.setIfInBounds_toArray, List.set_cons_zero, List.set_cons_succ]
  refine rel_load 25 _ rfl (w.heap.size + 1) (0) rfl (acells .i16 100 g) _ rfl rfl (fun w' hw' => (hw'.1.at 1 rfl).whole) Tryd.underlying25 rfl (by rw [acells_size]; exact sizeL16) (fun _ => ?_)
  simp only [Act.put, List.setIfInBounds_toArray, List.set_cons_zero, List.set_cons_succ]
  refine rel_call (.agg (acells .i16 100 g)) 11 #[.agg (acells .i16 100 g)] rfl rfl rfl rfl (enters_of Tryd.func11 (by kernel_rfl) rfl) (fun w' _ => toFears g w') (fun _ => ?_)
  simp only [Act.put, List.setIfInBounds_toArray, List.set_cons_zero, List.set_cons_succ]
  refine rel_val _ rfl rfl (fun _ _ => rfl) (fun _ => ?_)
  simp only [Act.put, List.setIfInBounds_toArray, List.set_cons_zero, List.set_cons_succ]
  refine rel_callP _ 23 #[.slice s z c] rfl rfl rfl rfl (enters_of Tryd.func23 (by kernel_rfl) rfl) (fun w' hw' => (Fto_any z q F s c w' (HI.out.later hw'.1.below)).mono (fun e w2 h => by
    obtain ⟨b, rfl, I, _, _, hb⟩ := h
    exact ⟨_, rfl, hb, fun w3 hb3 => ⟨b, rfl, I.later hb3⟩⟩)) (fun v lo_10 hi_10 _ hv => ?_)
  obtain ⟨_, _, b_10, rfl, _⟩ := hv
  simp only [Act.put, List.setIfInBounds_toArray, List.set_cons_zero, List.set_cons_succ]
  refine rel_val _ rfl rfl (fun _ _ => rfl) (fun _ => ?_)
  simp only [Act.put, List.setIfInBounds_toArray, List.set_cons_zero, List.set_cons_succ]
  refine rel_callKP 5 _ 28 #[.agg (fcells f), .agg (acells .i16 100 g), .slice (some ⟨b_10, 0, none⟩) z z, .int .i64 x] rfl rfl rfl rfl (enters_of Tryd.func28 (by kernel_rfl) rfl) rfl rfl rfl rfl (fun w' hw' hx => by
    obtain ⟨⟨b9, e9, I9⟩, _⟩ := hx
    obtain rfl : b_10 = b9 := by simpa using e9
    exact (HP.out b_10 w' (T.out.later hw'.1.below) (S.out.later hw'.1.below) I9).mono (fun e w2 h => by
    obtain ⟨p, c, he, hv, hw, hb⟩ := h
    exact ⟨_, he, hb, fun w3 hb3 => ⟨p, c, rfl, hv.later hb3⟩⟩)) (fun v lo10 hi10 hle10 hv => ?_)
  obtain ⟨_, _, p10, c10, rfl, _⟩ := hv
  simp only [Act.put, List.setIfInBounds_toArray, List.set_cons_zero, List.set_cons_succ]
  refine rel_read id (.tuple #[.agg (fcells FF), .slice p10 rn c10, .int .i64 cd]) rfl (by simp [readBy, Op.operands, Act.eval]) rfl (fun _ _ => rfl) (fun _ => ?_)
  simp only [Act.put, List.setIfInBounds_toArray, List.set_cons_zero, List.set_cons_succ]
  refine rel_val _ rfl rfl (fun _ _ => rfl) (fun _ => ?_)
  simp only [Act.put, List.setIfInBounds_toArray, List.set_cons_zero, List.set_cons_succ]
  refine rel_read (tupAt 1) (.slice p10 rn c10) rfl (by simp [readBy, Op.operands, Act.eval, tupAt]) rfl (fun _ _ => rfl) (fun _ => ?_)
  simp only [Act.put, List.setIfInBounds_toArray, List.set_cons_zero, List.set_cons_succ]
  refine rel_val _ rfl rfl (fun _ _ => rfl) (fun _ => ?_)
  simp only [Act.put, List.setIfInBounds_toArray, List.set_cons_zero, List.set_cons_succ]
  refine rel_alloc (Tryd.zeroCells30) 30 rfl rfl (fun _ => by rfl) (fun n10 => ?_)
  simp only [Act.put, List.setIfInBounds_toArray, List.set_cons_zero, List.set_cons_succ]
  refine rel_nil (fun W10 inv => ?_)
  obtain ⟨a10, x10, y10, ⟨_, _, e10, v10⟩, _⟩ := inv.fact 7 _ rfl
  have a10 : W9.heap.size ≤ lo10 := a10
  have x10 : lo10 ≤ hi10 := x10
  have y10 : hi10 ≤ W10.heap.size := y10
  obtain ⟨rfl, rfl⟩ : p10 = _ ∧ c10 = _ := by simpa using e10
  clear e10
  have d10 : hi10 ≤ n10 ∨ n10 + 1 ≤ lo10 := inv.apart 7 12 _ _ rfl rfl (by decide)
  have b10 : W9.heap.size ≤ n10 := (inv.fact 12 _ rfl).1
  have MA := inv.mem1 (i := 12) M9 inv.cls.1 rfl
  have B10 := inv.cls.2
  have z10 := B10.size
  have u10 : n10 < W10.heap.size := (MA.at 4 rfl).lt
  clear inv M9
  change wpList _ _ _ (_ :: [_, _]) _ _
  generalize List.toArray (List.foldl addEdge _ _) = ops9
  refine wpList_store_row rfl 30 _ _ rfl n10 (fcells FF) rfl rfl 30 _ (MA.at 4 rfl) (by rw [fcells_size]; exact sizeFd) (by rw [hzz.out, fcells_size]) (fcells_one _) ?_
  have MC := MA.row 4 rfl (fcells FF)
  have hr10 := marks_row W10 n10 (fcells FF)
  have q10 : (W10.setRow n10 (fcells FF)).heap.size = W10.heap.size := by simp
  have H10 := Lib.hid (v10.marked hr10 (by omega))
  replace H1 := Lib.hid ((H1.out.later B10).marked hr10 (by omega))
  replace U8 := Lib.hid ((U8.out.later B10).marked hr10 (by omega))
  clear MA hr10 v10 B10
  generalize World.setRow _ _ _ = V10 at MC H10 q10 H1 U8 ⊢
  have N10 : Mem w V10 [⟨w.heap.size, fcells f, 27⟩, ⟨w.heap.size + 1, acells .i16 100 g, 25⟩, ⟨n1, fcells FF, 30⟩, ⟨n3, fcells FF, 30⟩, ⟨n10, fcells FF, 30⟩] := MC
  clear MC
  have ok1 : True := trivial
  have ok2 : True := trivial
  go_upto_region 28 with (first
    | (clear ok1; refine wpList_load_part rfl 30 _ rfl n10 0 rfl (fcells FF) _ (N10.at 4 rfl).whole Tryd.underlying30 rfl (by rw [fcells_size]; exact sizeFd) ?_)
    | (clear ok2; refine wpList_load_part rfl 30 _ rfl n1 0 rfl (fcells FF) _ (N10.at 2 rfl).whole Tryd.underlying30 rfl (by rw [fcells_size]; exact sizeFd) ?_)
    | (go_at_call 14; refine (eqField_same FF hw hh _).mono ?_; rintro e Xc ⟨rfl, hb⟩; have Yc := N10.call hb; have sc := hb.size; replace H1 := Lib.hid (H1.out.later hb); replace H10 := Lib.hid (H10.out.later hb); replace U8 := Lib.hid (U8.out.later hb); clear N10 hb)
    | (go_at_call 29; refine (Neq_J _ hrb _ _ _ _ _ _ H10.out.j H1.out.j).mono ?_; rintro e Pc ⟨rfl, hb⟩; have Rc := Yc.call hb; have tc := hb.size; replace U8 := Lib.hid (U8.out.later hb); clear H1 H10; clear Yc hb))
  go_wp2_with (go_at_call 31; refine (Nheld_any _ hrb (1) (by omega) _ _ _ U8.out).mono ?_; rintro e W12 ⟨rfl, hb8⟩; have M12 := Rc.call hb8; clear hb8 Rc U8)
  go_ret
  exact ⟨rfl, M12.below⟩
theorem trodVars_len {H : Type} {enc : TypeId × Value → H} {P : Program} {w : World} {sp : Nat → Bool} : ∀ {ns : List String} {gs : List (DataW H)} {ps : List MemPlace}, DataW.TrodVars enc P w sp ns gs ps → gs.length = ns.length
  | [], [], _, _ => rfl
  | [], _ :: _, _, h => h.elim
  | _ :: _, [], _, h => h.elim
  | _ :: _, _ :: _, _, ⟨_, _, _, _, _, _, _, _, _, _, h, _⟩ => congrArg (· + 1) (trodVars_len h)
theorem door_met (os : Os) (args : Array Value) : laidMetH Tryd.prog Rows.fnExactFeedDaysRow.laid ((World.doorLaid Tryd.prog 400 os).forCall (fun _ _ => 0) ⟨#[], args, []⟩).memory :=
  laidMetH_of_parts3 (fuel := 8) (laidMet_of_run' 8 (by kernel_rfl) (by kernel_rfl)) (by kernel_rfl) (by kernel_rfl)
set_option maxRecDepth 100000 in
theorem lifted (os : Os) (started : os.Started) (H : Type) (enc : TypeId × Value → H) :
    ReturnsInHanded {} Tryd.checked os 6 .any (fun w args => (Rows.fnExactFeedDaysSpec.pre enc Tryd.prog Tryd.f6 Rows.fnExactFeedDaysRow.domain false w args ∧ laidMetH Tryd.prog Rows.fnExactFeedDaysRow.laid w) ∧ sizedMet enc Tryd.prog Tryd.f6 (OpenSpec.ofChange Rows.fnExactFeedDaysSpec) false w args) (Rows.fnExactFeedDaysSpec.post enc Tryd.prog Tryd.f6 false true false false) := by
  refine returnsInHanded_of_change_and (C := Tryd.checked) (X := fun w _ => laidMetH Tryd.prog Rows.fnExactFeedDaysRow.laid w) (fun _ _ _ hh h => h.of_heap hh) own started (by kernel_rfl) Tryd.func6
    (ChangeSpec.witness_shaped (enc := enc) (C := Tryd.checked) (os := os) (X := fun w _ => laidMetH Tryd.prog Rows.fnExactFeedDaysRow.laid w) false (World.doorLaid Tryd.prog 400 os) #[.agg (fcells Fd.zero), .agg (acells .i16 100 (fun _ => 0)), .slice none 0 0, .int .i64 0] 8 rfl (World.shaped_of_RefB (by kernel_rfl) (by kernel_rfl)) (by kernel_rfl) (by kernel_rfl) (by kernel_rfl) (door_met os _)) ?_
  intro W base args ds gs before hval0 hW _ _ hL _
  have hval : ∀ (j : Nat) t v, Tryd.f6.params[j]? = some t → args[j]? = some v → Value.okWide Tryd.prog W .any base t v := hval0
  have hW' := hW
  obtain ⟨p, q, hA0, hV0, rfl, hfz, hnd⟩ := hW
  have hA : DataW.TrodAll enc Tryd.prog W 0 (fun _ => true) true Tryd.f6.params.toList args.toList ds p := hA0
  have hV : DataW.TrodVars enc Tryd.prog W (fun _ => true) Rows.fnExactFeedDaysSpec.vars gs q := hV0
  rw [Tryd.params6] at hA hval
  obtain ⟨v0, vs0, d0, ds0, p0, q0, hargs, rfl, rfl, h0, r0⟩ := trodAll_cons hA
  obtain ⟨v1, vs1, d1, ds1, p1, q1, rfl, rfl, rfl, h1, r1⟩ := trodAll_cons r0
  obtain ⟨v2, vs2, d2, ds2, p2, q2, rfl, rfl, rfl, h2, r2⟩ := trodAll_cons r1
  obtain ⟨v3, vs3, d3, ds3, p3, q3, rfl, rfl, rfl, h3, r3⟩ := trodAll_cons r2
  obtain ⟨rfl, rfl, rfl⟩ := trodAll_nil r3
  obtain rfl : args = #[v0, v1, v2, v3] := by cases args; simp_all
  rw [MakeChecks.laidMetH_plain _ _ _ (by kernel_rfl)] at hL
  obtain ⟨A, SV⟩ := sentVars (rest := [(tabName, Rows.laid_loop_example_g01338_impl_mostOfFlock)]) hL
  have T : TabAt W := by
    obtain ⟨ps, hv, _, _⟩ := hL
    obtain ⟨_, _, _, _, _, _, _, _, _, _, hv, _⟩ := hv
    obtain ⟨_, _, _, _, _, _, _, _, _, _, hv, _⟩ := hv
    obtain ⟨_, _, _, _, _, _, _, _, _, _, hv, _⟩ := hv
    obtain ⟨_, _, _, _, _, _, _, _, _, _, hv, _⟩ := hv
    obtain ⟨_, _, _, _, _, _, _, _, _, _, hv, _⟩ := hv
    obtain ⟨_, _, _, _, _, _, _, _, _, _, hv, _⟩ := hv
    obtain ⟨_, _, _, _, _, _, _, _, _, _, hv, _⟩ := hv
    obtain ⟨_, _, _, _, _, _, _, _, _, _, hv, _⟩ := hv
    exact tab_of hv
  have hlen := trodVars_len hV
  obtain ⟨gv1, gv2, gv3, gv4, gv5, gv6, gv7, gv8, gv9, rfl⟩ : ∃ gv1 gv2 gv3 gv4 gv5 gv6 gv7 gv8 gv9, gs = [gv1, gv2, gv3, gv4, gv5, gv6, gv7, gv8, gv9] := by
    match gs, hlen with
    | [gv1, gv2, gv3, gv4, gv5, gv6, gv7, gv8, gv9], _ => exact ⟨gv1, gv2, gv3, gv4, gv5, gv6, gv7, gv8, gv9, rfl⟩
  have k0 := h0
  have lt0 : ∀ x ∈ p0, x.block < W.heap.size := by obtain ⟨m, hm⟩ := k0; exact DataW.trod_lt m _ _ _ hm
  have k1 := h1
  have lt1 : ∀ x ∈ p1, x.block < W.heap.size := by obtain ⟨m, hm⟩ := k1; exact DataW.trod_lt m _ _ _ hm
  have k2 := h2
  have lt2 : ∀ x ∈ p2, x.block < W.heap.size := by obtain ⟨m, hm⟩ := k2; exact DataW.trod_lt m _ _ _ hm
  have k3 := h3
  have lt3 : ∀ x ∈ p3, x.block < W.heap.size := by obtain ⟨m, hm⟩ := k3; exact DataW.trod_lt m _ _ _ hm
  obtain ⟨f0, rfl, hf0⟩ := open_field (fs := Tryd.prog.fieldsOf 27) (by kernel_rfl) (by kernel_rfl) Tryd.underlying22 Tryd.underlying23 Tryd.underlying5 Tryd.underlying25 Tryd.underlying24 (by kernel_rfl) (by kernel_rfl) (by kernel_rfl) (by kernel_rfl) (by kernel_rfl) (by kernel_rfl) (hval 0 27 v0 rfl rfl) h0
  obtain ⟨f1, rfl, hf1⟩ := open_row (q := .i16) Tryd.underlying25 Tryd.underlying24 (by kernel_rfl) (by kernel_rfl) (hval 1 25 v1 rfl rfl) h1
  obtain ⟨s2, z2, c2, G2, rfl, hz2, hi2, hg2⟩ := open_ints (ks := ksFlock) (fs := Tryd.prog.fieldsOf 29) Tryd.underlying48 (by kernel_rfl) (by decide) (by kernel_rfl) (by kernel_rfl) (hval 2 48 v2 rfl rfl) h2
  obtain ⟨n3, rfl, rfl, rfl, wn3⟩ := open_int Tryd.underlying2 (hval 3 2 v3 rfl rfl) h3
  clear hA0 hval0 hV0
  refine (walk W f0 hf0 f1 hf1 s2 z2 c2 G2 (by simpa [maxLen] using hz2) hi2 hg2 n3 wn3 A T SV.sents).mono fun e W' ⟨he, bel⟩ => ?_
  subst he
  exact ⟨_, rfl, _, _, _, [], _, _, hW', trodAll_mk1 (shut_bool Tryd.underlying4 _), (trodAll_cons_mk (Below.trod laidOut (by kernel_rfl) (of_decide_eq_true (by kernel_rfl)) k0 bel lt0) (trodAll_cons_mk (Below.trod laidOut (by kernel_rfl) (of_decide_eq_true (by kernel_rfl)) k1 bel lt1) (trodAll_cons_mk (Below.trod laidOut (by kernel_rfl) (of_decide_eq_true (by kernel_rfl)) k2 bel lt2) (trodAll_cons_mk (Below.trod laidOut (by kernel_rfl) (of_decide_eq_true (by kernel_rfl)) k3 bel lt3) trodAll_mk0)))), Below.trodVars laidOut bel (by kernel_rfl) hV, bel.frame _, fun h => by cases h⟩

theorem over : Rows.fnExactFeedDaysRow.holds Tryd.pinned (OpenSpec.ofChange Rows.fnExactFeedDaysSpec) :=
  OpenClaim.holds_of_wide 6 Tryd.f6 rfl rfl rfl rfl rfl rfl rfl ⟨rfl, rfl, rfl, rfl, rfl⟩ rfl rfl rfl rfl rfl (by kernel_rfl) Tryd.func6 (by kernel_rfl)
    (of_decide_eq_true (by kernel_rfl)) (by unfold Func.isWrapper; first | (rw [if_pos (by decide +kernel)]; kernel_rfl) | (rw [if_neg (by decide +kernel)]; exact ⟨rfl, rfl⟩))
    (fun os started H enc _ => lifted os started H enc)
theorem proved : Rows.FnExactFeedDaysCardSaid :=
  Claim7.holds_tied_plain_at .later [] [.sentinel, .sentinel, .sentinel, .sentinel, .sentinel, .sentinel, .sentinel, .sentinel, .data] true (true, "12764da00c9b4c602e80c2758c989fcc8950fe1572823cb35943fe2ef56628fc") true
    over (fun _ h => by cases h) (by kernel_rfl) (fun _ h => by cases h) fnExactFeedDays_row_tie rfl ⟨rfl, rfl⟩ (by kernel_rfl) rfl
    (fun f fn hf hfn => by
      obtain rfl : f = 6 := Option.some.inj ((show Tryd.prog.funcNamed "loop.example/g01338/laws.FnExactFeedDays" = some 6 by kernel_rfl).symm.trans hf) |>.symm
      obtain rfl : fn = Tryd.f6 := (Option.some.inj (Tryd.func6.symm.trans hfn)).symm
      exact ⟨by kernel_rfl, fun j t ht => by
        rw [Tryd.params6] at ht
        have hm : t ∈ [27, 25, 48, 2] := by simpa using Array.mem_of_getElem? ht
        have hall : ([27, 25, 48, 2].all fun u => !Tryd.prog.wantsStandIn u) = true := by kernel_rfl
        exact (show Tryd.prog.wantsStandIn t = false by simpa using List.all_eq_true.1 hall t hm)⟩)
    (by kernel_rfl)
#print axioms proved
end Go.Proofs.YtaioflkonpommaaDoor.lawFeedDays
