/-
  FeedFlock: for every field (valid or not) and all further arguments the program answers as the model does, and its memory is its own: no condition beyond the listed variables, which the card ties to the program's text.
-/
import Derived.Test.YtaioflkonpommaaDoorFdM
import Derived.Test.YtaioflkonpommaaDoorLstV
import Derived.Test.YtaioflkonpommaaDoorFears2
import Derived.Test.YtaioflkonpommaaDoorRow1
import Derived.Test.YtaioflkonpommaaDoorEqF
import Derived.Test.YtaioflkonpommaaDoorTab
import Derived.Test.YtaioflkonpommaaDoorCoreB
import Derived.Test.YtaioflkonpommaaDoorRelR
import Derived.Test.YtaioflkonpommaaDoorLawh
import Derived.Test.YtaioflkonpommaaDoorCard
import Derived.Test.YtaioflkonpommaaDoorTie
import Derived.Test.YtaioflkonpommaaDoorCards
import Derived.SevenTiedAt
import Derived.OpenVars
namespace Go.Proofs.YtaioflkonpommaaDoor.lawFeedFlock
open Go Go.ChangeShapes Go.WideShapes Go.ChangeAt Go.RowKit

theorem sizeL16 : (Tryd.prog.info? 25).map (·.size) = some 100 := by kernel_rfl
theorem marks_row (w : World) (b : Nat) (cs : Array Value) : NMarks b (b + 1) w (w.setRow b cs) := .inr ⟨b, Nat.le_refl _, Nat.lt_succ_self _, grown_row w b cs, by simp⟩
set_option maxRecDepth 100000 in
set_option maxHeartbeats 16000000 in
theorem walk (w : World) (f : Fd) (hff : f.Wf) (g : Nat → Int) (hvg : ∀ i, i < 100 → (Lit.int .i16 (g i)).wf = true) (a : Nat → Int) (hsa : WfS ksFlock 1 (fun _ => a)) (A : Nat → Addr) (T0 : TabAt w) (S0 : Sents w A) : Calls Tryd.prog 4 #[.agg (fcells f), .agg (acells .i16 100 g), vFlock a] w fun e w' => e = .returned (.bool true) ∧ Below w.heap.size w w' := by
  have S : Hid (Sents w A) := Lib.hid S0
  have T : Hid (TabAt w) := Lib.hid T0
  clear S0 T0
  have hwg : Wf16 g := fun i hi => bounds_i16 (hvg i hi)
  clear hvg
  have hra : WfR a := WfS.row hsa (i := 0) (by omega)
  clear hsa
  have hz : Hid (Tryd.zeroCells30.size = 202) := Lib.hid (by rw [zeroFd, fcells_size])
  obtain ⟨hw, hh⟩ := fkF_size f hff g a
  have hrb0 := fkN_le f g a
  have HS := Lib.hid (fun w => specFeedFlock f hff g hwg a hra w)
  have HP := Lib.hid (fun w T S => implFeedFlock f hff g hwg a hra A w T S)
  obtain ⟨FF, hFF⟩ : ∃ FF, fkF f g a = FF := ⟨_, rfl⟩
  obtain ⟨cd, hcd⟩ : ∃ cd, ffCode f g a = cd := ⟨_, rfl⟩
  obtain ⟨rn, hrn⟩ : ∃ rn, fkN f g a = rn := ⟨_, rfl⟩
  obtain ⟨RR, hRR⟩ : ∃ RR, rowsF (fdR 0 f g a rn) = RR := ⟨_, rfl⟩
  unfold FkP at HS HP
  rw [hFF, hcd, hrn, hRR] at HS HP
  rw [hFF] at hw hh
  rw [hrn] at hrb0
  have hrb : rn ≤ 2 ^ 40 := by omega
  clear hFF hcd hff hwg hra hrn hRR
  go_enter Tryd.func4, Tryd.ntmps4
  go_upto_region 1 with (fail)
  obtain ⟨W, hW, M⟩ := open3 w (fcells f) 27 (acells .i16 100 g) 25 (flc a) 29
  unfold flc at hW
  rw [hW]; clear hW
  have z0 : w.heap.size + 1 + 1 < W.heap.size := (M.at 2 rfl).lt
  refine wp_region_rel_edges [(12, 9), (12, 10)] 12 (DL [dV (.agg (fcells f)), dV (.agg (fcells f)), dV (.agg (acells .i16 100 g)), dV (.agg (acells .i16 100 g)), dV (.agg (flc a)), dV (vFlock a), dP (fun v lo hi w9 => ∃ p c, v = .tuple #[.agg (fcells FF), .slice p rn c, .int .i64 cd] ∧ SV ksVisit lo hi w9 p rn RR), dR id, dV (.agg (fcells FF)), dR (tupAt 1), dV (.int .i64 cd), dB (Tryd.zeroCells30) 30]) (C := fun w' => Mem w w' [⟨w.heap.size, fcells f, 27⟩, ⟨w.heap.size + 1, acells .i16 100 g, 25⟩, ⟨w.heap.size + 1 + 1, flc a, 29⟩] ∧ Below W.heap.size W w') (fun _ _ _ _ _ h => h) (by kernel_rfl) (by kernel_rfl) (by kernel_rfl) grows_memB
    (stays_DL (fun d hd => by
      simp only [List.mem_cons, List.mem_nil_iff, or_false] at hd
      rcases hd with rfl | rfl | rfl | rfl | rfl | rfl | rfl | rfl | rfl | rfl | rfl | rfl <;> first | exact stay_V | exact stay_P | exact stay_R | exact stay_B)) ⟨M.drew, (Below.refl _ _).drew⟩ ?_
  refine rel_load 27 _ rfl (w.heap.size) (0) rfl (fcells f) _ rfl rfl (fun w' hw' => (hw'.1.at 0 rfl).whole) Tryd.underlying27 rfl (by rw [fcells_size]; exact sizeFl) (fun _ => ?_)
  simp only [Act.put, List.setIfInBounds_toArray, List.set_cons_zero, List.set_cons_succ]
  refine rel_call (.agg (fcells f)) 10 #[.agg (fcells f)] rfl rfl rfl rfl (enters_of Tryd.func10 (by kernel_rfl) rfl) (fun w' _ => toField f w') (fun _ => ?_)
  simp only [Act.put, List.setIfInBounds_toArray, List.set_cons_zero, List.set_cons_succ]
  refine rel_load 25 _ rfl (w.heap.size + 1) (0) rfl (acells .i16 100 g) _ rfl rfl (fun w' hw' => (hw'.1.at 1 rfl).whole) Tryd.underlying25 rfl (by rw [acells_size]; exact sizeL16) (fun _ => ?_)
  simp only [Act.put, List.setIfInBounds_toArray, List.set_cons_zero, List.set_cons_succ]
  refine rel_call (.agg (acells .i16 100 g)) 11 #[.agg (acells .i16 100 g)] rfl rfl rfl rfl (enters_of Tryd.func11 (by kernel_rfl) rfl) (fun w' _ => toFears g w') (fun _ => ?_)
  simp only [Act.put, List.setIfInBounds_toArray, List.set_cons_zero, List.set_cons_succ]
  refine rel_load 29 _ rfl (w.heap.size + 1 + 1) (0) rfl (flc a) _ rfl rfl (fun w' hw' => (hw'.1.at 2 rfl).whole) Tryd.underlying29 rfl (by kernel_rfl) (fun _ => ?_)
  simp only [Act.put, List.setIfInBounds_toArray, List.set_cons_zero, List.set_cons_succ]
  refine rel_call (vFlock a) 12 #[vFlock a] rfl rfl rfl rfl (enters_of Tryd.func12 (by kernel_rfl) rfl) (fun w' _ => toFlock_any a w') (fun _ => ?_)
  simp only [Act.put, List.setIfInBounds_toArray, List.set_cons_zero, List.set_cons_succ]
  refine rel_callP _ 16 #[.agg (fcells f), .agg (acells .i16 100 g), vFlock a] rfl rfl rfl rfl (enters_of Tryd.func16 (by kernel_rfl) rfl) (fun w' hw' => (HS.out w').mono (fun e w2 h => by
    obtain ⟨p, c, he, hv, hw, hb⟩ := h
    exact ⟨_, he, hb, fun w3 hb3 => ⟨p, c, rfl, hv.later hb3⟩⟩)) (fun v lo1 hi1 hle1 hv => ?_)
  obtain ⟨_, _, p1, c1, rfl, _⟩ := hv
  simp only [Act.put, List.setIfInBounds_toArray, List.set_cons_zero, List.set_cons_succ]
  refine rel_read id (.tuple #[.agg (fcells FF), .slice p1 rn c1, .int .i64 cd]) rfl (by simp [readBy, Op.operands, Act.eval, tupAt]) rfl (fun _ _ => rfl) (fun _ => ?_)
  simp only [Act.put, List.setIfInBounds_toArray, List.set_cons_zero, List.set_cons_succ]
  refine rel_val _ rfl rfl (fun _ _ => rfl) (fun _ => ?_)
  simp only [Act.put, List.setIfInBounds_toArray, List.set_cons_zero, List.set_cons_succ]
  refine rel_read (tupAt 1) (.slice p1 rn c1) rfl (by simp [readBy, Op.operands, Act.eval, tupAt]) rfl (fun _ _ => rfl) (fun _ => ?_)
  simp only [Act.put, List.setIfInBounds_toArray, List.set_cons_zero, List.set_cons_succ]
  refine rel_val _ rfl rfl (fun _ _ => rfl) (fun _ => ?_)
  simp only [Act.put, List.setIfInBounds_toArray, List.set_cons_zero, List.set_cons_succ]
  refine rel_alloc (Tryd.zeroCells30) 30 rfl rfl (fun _ => by rfl) (fun n1 => ?_)
  simp only [Act.put, List.setIfInBounds_toArray, List.set_cons_zero, List.set_cons_succ]
  refine rel_nil (fun W1 inv => ?_)
  obtain ⟨a1, x1, y1, ⟨_, _, e1, v1⟩, _⟩ := inv.fact 6 _ rfl
  have a1 : W.heap.size ≤ lo1 := a1
  have x1 : lo1 ≤ hi1 := x1
  have y1 : hi1 ≤ W1.heap.size := y1
  obtain ⟨rfl, rfl⟩ : p1 = _ ∧ c1 = _ := by simpa using e1
  clear e1
  have d1 : hi1 ≤ n1 ∨ n1 + 1 ≤ lo1 := inv.apart 6 11 _ _ rfl rfl (by decide)
  have b1 : W.heap.size ≤ n1 := (inv.fact 11 _ rfl).1
  have MA := inv.mem1 (i := 11) M inv.cls.1 rfl
  have B1 := inv.cls.2
  have z1 := B1.size
  have u1 : n1 < W1.heap.size := (MA.at 3 rfl).lt
  clear inv M
  change wpList _ _ _ (_ :: [_, _]) _ _
  generalize List.toArray (List.foldl addEdge _ _) = ops9
  refine wpList_store_row rfl 30 _ _ rfl n1 (fcells FF) rfl rfl 30 _ (MA.at 3 rfl) (by rw [fcells_size]; exact sizeFd) (by rw [hz.out, fcells_size]) (fcells_one _) ?_
  have MC := MA.row 3 rfl (fcells FF)
  have hr1 := marks_row W1 n1 (fcells FF)
  have q1 : (W1.setRow n1 (fcells FF)).heap.size = W1.heap.size := by simp
  have H1 := Lib.hid (v1.marked hr1 (by omega))
  clear MA hr1 v1 B1
  generalize World.setRow _ _ _ = V1 at MC H1 q1 ⊢
  have N1 : Mem w V1 [⟨w.heap.size, fcells f, 27⟩, ⟨w.heap.size + 1, acells .i16 100 g, 25⟩, ⟨w.heap.size + 1 + 1, flc a, 29⟩, ⟨n1, fcells FF, 30⟩] := MC
  clear MC
  go_upto_region 2 with (fail)
  refine wp_region_rel_edges [(12, 9), (12, 10)] 12 (DL [dV (.agg (fcells f)), dV (.agg (fcells f)), dV (.agg (acells .i16 100 g)), dV (.agg (acells .i16 100 g)), dV (.agg (flc a)), dV (vFlock a), dP (fun v lo hi w9 => ∃ p c, v = .tuple #[.agg (fcells FF), .slice p rn c, .int .i64 cd] ∧ SV ksVisit lo hi w9 p rn RR ∧ SW ksVisit 32 lo hi w9 p rn), dR id, dV (.agg (fcells FF)), dR (tupAt 1), dV (.int .i64 cd), dB (Tryd.zeroCells30) 30]) (C := fun w' => Mem w w' [⟨w.heap.size, fcells f, 27⟩, ⟨w.heap.size + 1, acells .i16 100 g, 25⟩, ⟨w.heap.size + 1 + 1, flc a, 29⟩, ⟨n1, fcells FF, 30⟩] ∧ Below V1.heap.size V1 w') (fun _ _ _ _ _ h => h) (by kernel_rfl) (by kernel_rfl) (by kernel_rfl) grows_memB
    (stays_DL (fun d hd => by
      simp only [List.mem_cons, List.mem_nil_iff, or_false] at hd
      rcases hd with rfl | rfl | rfl | rfl | rfl | rfl | rfl | rfl | rfl | rfl | rfl | rfl <;> first | exact stay_V | exact stay_P | exact stay_R | exact stay_B)) ⟨N1.drew, (Below.refl _ _).drew⟩ ?_
  refine rel_load 27 _ rfl (w.heap.size) (0) rfl (fcells f) _ rfl rfl (fun w' hw' => (hw'.1.at 0 rfl).whole) Tryd.underlying27 rfl (by rw [fcells_size]; exact sizeFl) (fun _ => ?_)
  simp only [Act.put, List.setIfInBounds_toArray, List.set_cons_zero, List.set_cons_succ]
  refine rel_call (.agg (fcells f)) 10 #[.agg (fcells f)] rfl rfl rfl rfl (enters_of Tryd.func10 (by kernel_rfl) rfl) (fun w' _ => toField f w') (fun _ => ?_)
  simp only [Act.put, List.setIfInBounds_toArray, List.set_cons_zero, List.set_cons_succ]
  refine rel_load 25 _ rfl (w.heap.size + 1) (0) rfl (acells .i16 100 g) _ rfl rfl (fun w' hw' => (hw'.1.at 1 rfl).whole) Tryd.underlying25 rfl (by rw [acells_size]; exact sizeL16) (fun _ => ?_)
  simp only [Act.put, List.setIfInBounds_toArray, List.set_cons_zero, List.set_cons_succ]
  refine rel_call (.agg (acells .i16 100 g)) 11 #[.agg (acells .i16 100 g)] rfl rfl rfl rfl (enters_of Tryd.func11 (by kernel_rfl) rfl) (fun w' _ => toFears g w') (fun _ => ?_)
  simp only [Act.put, List.setIfInBounds_toArray, List.set_cons_zero, List.set_cons_succ]
  refine rel_load 29 _ rfl (w.heap.size + 1 + 1) (0) rfl (flc a) _ rfl rfl (fun w' hw' => (hw'.1.at 2 rfl).whole) Tryd.underlying29 rfl (by kernel_rfl) (fun _ => ?_)
  simp only [Act.put, List.setIfInBounds_toArray, List.set_cons_zero, List.set_cons_succ]
  refine rel_call (vFlock a) 12 #[vFlock a] rfl rfl rfl rfl (enters_of Tryd.func12 (by kernel_rfl) rfl) (fun w' _ => toFlock_any a w') (fun _ => ?_)
  simp only [Act.put, List.setIfInBounds_toArray, List.set_cons_zero, List.set_cons_succ]
  refine rel_callP _ 17 #[.agg (fcells f), .agg (acells .i16 100 g), vFlock a] rfl rfl rfl rfl (enters_of Tryd.func17 (by kernel_rfl) rfl) (fun w' hw' => (HP.out w' (T.out.later hw'.1.below) (S.out.later hw'.1.below)).mono (fun e w2 h => by
    obtain ⟨p, c, he, hv, hw, hb⟩ := h
    exact ⟨_, he, hb, fun w3 hb3 => ⟨p, c, rfl, hv.later hb3, hw.later hb3⟩⟩)) (fun v lo2 hi2 hle2 hv => ?_)
  obtain ⟨_, _, p2, c2, rfl, _⟩ := hv
  simp only [Act.put, List.setIfInBounds_toArray, List.set_cons_zero, List.set_cons_succ]
  refine rel_read id (.tuple #[.agg (fcells FF), .slice p2 rn c2, .int .i64 cd]) rfl (by simp [readBy, Op.operands, Act.eval, tupAt]) rfl (fun _ _ => rfl) (fun _ => ?_)
  simp only [Act.put, List.setIfInBounds_toArray, List.set_cons_zero, List.set_cons_succ]
  refine rel_val _ rfl rfl (fun _ _ => rfl) (fun _ => ?_)
  simp only [Act.put, List.setIfInBounds_toArray, List.set_cons_zero, List.set_cons_succ]
  refine rel_read (tupAt 1) (.slice p2 rn c2) rfl (by simp [readBy, Op.operands, Act.eval, tupAt]) rfl (fun _ _ => rfl) (fun _ => ?_)
  simp only [Act.put, List.setIfInBounds_toArray, List.set_cons_zero, List.set_cons_succ]
  refine rel_val _ rfl rfl (fun _ _ => rfl) (fun _ => ?_)
  simp only [Act.put, List.setIfInBounds_toArray, List.set_cons_zero, List.set_cons_succ]
  refine rel_alloc (Tryd.zeroCells30) 30 rfl rfl (fun _ => by rfl) (fun n2 => ?_)
  simp only [Act.put, List.setIfInBounds_toArray, List.set_cons_zero, List.set_cons_succ]
  refine rel_nil (fun W2 inv => ?_)
  obtain ⟨a2, x2, y2, ⟨_, _, e2, v2, n92⟩, _⟩ := inv.fact 6 _ rfl
  have a2 : V1.heap.size ≤ lo2 := a2
  have x2 : lo2 ≤ hi2 := x2
  have y2 : hi2 ≤ W2.heap.size := y2
  obtain ⟨rfl, rfl⟩ : p2 = _ ∧ c2 = _ := by simpa using e2
  clear e2
  have d2 : hi2 ≤ n2 ∨ n2 + 1 ≤ lo2 := inv.apart 6 11 _ _ rfl rfl (by decide)
  have b2 : V1.heap.size ≤ n2 := (inv.fact 11 _ rfl).1
  have MA := inv.mem1 (i := 11) N1 inv.cls.1 rfl
  have B2 := inv.cls.2
  have z2 := B2.size
  have u2 : n2 < W2.heap.size := (MA.at 4 rfl).lt
  clear inv N1
  change wpList _ _ _ (_ :: [_, _]) _ _
  generalize List.toArray (List.foldl addEdge _ _) = ops9
  refine wpList_store_row rfl 30 _ _ rfl n2 (fcells FF) rfl rfl 30 _ (MA.at 4 rfl) (by rw [fcells_size]; exact sizeFd) (by rw [hz.out, fcells_size]) (fcells_one _) ?_
  have MC := MA.row 4 rfl (fcells FF)
  have hr2 := marks_row W2 n2 (fcells FF)
  have q2 : (W2.setRow n2 (fcells FF)).heap.size = W2.heap.size := by simp
  have H2 := Lib.hid (v2.marked hr2 (by omega))
  have K2 := Lib.hid (n92.marked hr2 (by omega))
  clear n92
  replace H1 := Lib.hid ((H1.out.later B2).marked hr2 (by omega))
  clear MA hr2 v2 B2
  generalize World.setRow _ _ _ = V2 at MC H2 q2 H1 K2 ⊢
  have N2 : Mem w V2 [⟨w.heap.size, fcells f, 27⟩, ⟨w.heap.size + 1, acells .i16 100 g, 25⟩, ⟨w.heap.size + 1 + 1, flc a, 29⟩, ⟨n1, fcells FF, 30⟩, ⟨n2, fcells FF, 30⟩] := MC
  clear MC
  have ok1 : True := trivial
  have ok2 : True := trivial
  go_upto_region 6 with (first
    | (clear ok1; refine wpList_load_part rfl 30 _ rfl n2 0 rfl (fcells FF) _ (N2.at 4 rfl).whole Tryd.underlying30 rfl (by rw [fcells_size]; exact sizeFd) ?_)
    | (clear ok2; refine wpList_load_part rfl 30 _ rfl n1 0 rfl (fcells FF) _ (N2.at 3 rfl).whole Tryd.underlying30 rfl (by rw [fcells_size]; exact sizeFd) ?_)
    | (go_at_call 14; refine (eqField_same FF hw hh _).mono ?_; rintro e X2 ⟨rfl, hb⟩; have Y2 := N2.call hb; have s2 := hb.size; replace H1 := Lib.hid (H1.out.later hb); replace H2 := Lib.hid (H2.out.later hb); replace K2 := Lib.hid (K2.out.later hb); clear N2 hb)
    | (go_at_call 18; refine (Veq_J _ hrb _ _ _ _ _ _ H2.out.j H1.out.j).mono ?_; rintro e P2 ⟨rfl, hb⟩; have R2 := Y2.call hb; have t2 := hb.size; replace H1 := Lib.hid (H1.out.later hb); replace K2 := Lib.hid (K2.out.later hb); clear H2; clear Y2 hb))
  go_upto_region 8 with (go_at_call 19; refine (Vmark_any _ hrb (1) (by omega) _ _ _ K2.out).mono ?_; rintro e P3 ⟨rfl, hm, v0⟩; have R3 := VMem.marked R2 hm (by omega) (fun i e h => by
      have hmem := List.mem_of_getElem? h
      simp only [List.mem_cons, List.mem_nil_iff, or_false] at hmem
      rcases hmem with rfl | rfl | rfl | rfl | rfl <;> simp only <;> omega); have t3 := hm.size; replace H1 := Lib.hid (H1.out.marked hm (by omega)); have U3 := Lib.hid v0; clear hm v0 R2 K2)
  go_upto_region 13 with (go_at_call 20; refine (Vheld_any _ hrb (1) (by omega) _ _ _ U3.out).mono ?_; rintro e P4 ⟨rfl, hb⟩; have R4 := R3.call hb; have t4 := hb.size; replace H1 := Lib.hid (H1.out.later hb); have U4 := Lib.hid (U3.out.later hb); clear hb R3 U3)
  refine wp_region_rel_edges [(12, 9), (12, 10)] 12 (DL [dV (.agg (fcells f)), dV (.agg (fcells f)), dV (.agg (acells .i16 100 g)), dV (.agg (acells .i16 100 g)), dV (.agg (flc a)), dV (vFlock a), dP (fun v lo hi w9 => ∃ p c, v = .tuple #[.agg (fcells FF), .slice p rn c, .int .i64 cd] ∧ SV ksVisit lo hi w9 p rn RR), dR id, dV (.agg (fcells FF)), dR (tupAt 1), dV (.int .i64 cd), dB (Tryd.zeroCells30) 30]) (C := fun w' => Mem w w' [⟨w.heap.size, fcells f, 27⟩, ⟨w.heap.size + 1, acells .i16 100 g, 25⟩, ⟨w.heap.size + 1 + 1, flc a, 29⟩, ⟨n1, fcells FF, 30⟩, ⟨n2, fcells FF, 30⟩] ∧ Below P4.heap.size P4 w') (fun _ _ _ _ _ h => h) (by kernel_rfl) (by kernel_rfl) (by kernel_rfl) grows_memB
    (stays_DL (fun d hd => by
      simp only [List.mem_cons, List.mem_nil_iff, or_false] at hd
      rcases hd with rfl | rfl | rfl | rfl | rfl | rfl | rfl | rfl | rfl | rfl | rfl | rfl <;> first | exact stay_V | exact stay_P | exact stay_R | exact stay_B)) ⟨R4.drew, (Below.refl _ _).drew⟩ ?_
  refine rel_load 27 _ rfl (w.heap.size) (0) rfl (fcells f) _ rfl rfl (fun w' hw' => (hw'.1.at 0 rfl).whole) Tryd.underlying27 rfl (by rw [fcells_size]; exact sizeFl) (fun _ => ?_)
  simp only [Act.put, List.setIfInBounds_toArray, List.set_cons_zero, List.set_cons_succ]
  refine rel_call (.agg (fcells f)) 10 #[.agg (fcells f)] rfl rfl rfl rfl (enters_of Tryd.func10 (by kernel_rfl) rfl) (fun w' _ => toField f w') (fun _ => ?_)
  simp only [Act.put, List.setIfInBounds_toArray, List.set_cons_zero, List.set_cons_succ]
  refine rel_load 25 _ rfl (w.heap.size + 1) (0) rfl (acells .i16 100 g) _ rfl rfl (fun w' hw' => (hw'.1.at 1 rfl).whole) Tryd.underlying25 rfl (by rw [acells_size]; exact sizeL16) (fun _ => ?_)
  simp only [Act.put, List.setIfInBounds_toArray, List.set_cons_zero, List.set_cons_succ]
  refine rel_call (.agg (acells .i16 100 g)) 11 #[.agg (acells .i16 100 g)] rfl rfl rfl rfl (enters_of Tryd.func11 (by kernel_rfl) rfl) (fun w' _ => toFears g w') (fun _ => ?_)
  simp only [Act.put, List.setIfInBounds_toArray, List.set_cons_zero, List.set_cons_succ]
  refine rel_load 29 _ rfl (w.heap.size + 1 + 1) (0) rfl (flc a) _ rfl rfl (fun w' hw' => (hw'.1.at 2 rfl).whole) Tryd.underlying29 rfl (by kernel_rfl) (fun _ => ?_)
  simp only [Act.put, List.setIfInBounds_toArray, List.set_cons_zero, List.set_cons_succ]
  refine rel_call (vFlock a) 12 #[vFlock a] rfl rfl rfl rfl (enters_of Tryd.func12 (by kernel_rfl) rfl) (fun w' _ => toFlock_any a w') (fun _ => ?_)
  simp only [Act.put, List.setIfInBounds_toArray, List.set_cons_zero, List.set_cons_succ]
  refine rel_callP _ 17 #[.agg (fcells f), .agg (acells .i16 100 g), vFlock a] rfl rfl rfl rfl (enters_of Tryd.func17 (by kernel_rfl) rfl) (fun w' hw' => (HP.out w' (T.out.later hw'.1.below) (S.out.later hw'.1.below)).mono (fun e w2 h => by
    obtain ⟨p, c, he, hv, hw, hb⟩ := h
    exact ⟨_, he, hb, fun w3 hb3 => ⟨p, c, rfl, hv.later hb3⟩⟩)) (fun v lo4 hi4 hle4 hv => ?_)
  obtain ⟨_, _, p4, c4, rfl, _⟩ := hv
  simp only [Act.put, List.setIfInBounds_toArray, List.set_cons_zero, List.set_cons_succ]
  refine rel_read id (.tuple #[.agg (fcells FF), .slice p4 rn c4, .int .i64 cd]) rfl (by simp [readBy, Op.operands, Act.eval, tupAt]) rfl (fun _ _ => rfl) (fun _ => ?_)
  simp only [Act.put, List.setIfInBounds_toArray, List.set_cons_zero, List.set_cons_succ]
  refine rel_val _ rfl rfl (fun _ _ => rfl) (fun _ => ?_)
  simp only [Act.put, List.setIfInBounds_toArray, List.set_cons_zero, List.set_cons_succ]
  refine rel_read (tupAt 1) (.slice p4 rn c4) rfl (by simp [readBy, Op.operands, Act.eval, tupAt]) rfl (fun _ _ => rfl) (fun _ => ?_)
  simp only [Act.put, List.setIfInBounds_toArray, List.set_cons_zero, List.set_cons_succ]
  refine rel_val _ rfl rfl (fun _ _ => rfl) (fun _ => ?_)
  simp only [Act.put, List.setIfInBounds_toArray, List.set_cons_zero, List.set_cons_succ]
  refine rel_alloc (Tryd.zeroCells30) 30 rfl rfl (fun _ => by rfl) (fun n4 => ?_)
  simp only [Act.put, List.setIfInBounds_toArray, List.set_cons_zero, List.set_cons_succ]
  refine rel_nil (fun W4 inv => ?_)
  obtain ⟨a4, x4, y4, ⟨_, _, e4, v4⟩, _⟩ := inv.fact 6 _ rfl
  have a4 : P4.heap.size ≤ lo4 := a4
  have x4 : lo4 ≤ hi4 := x4
  have y4 : hi4 ≤ W4.heap.size := y4
  obtain ⟨rfl, rfl⟩ : p4 = _ ∧ c4 = _ := by simpa using e4
  clear e4
  have d4 : hi4 ≤ n4 ∨ n4 + 1 ≤ lo4 := inv.apart 6 11 _ _ rfl rfl (by decide)
  have b4 : P4.heap.size ≤ n4 := (inv.fact 11 _ rfl).1
  have MA := inv.mem1 (i := 11) R4 inv.cls.1 rfl
  have B4 := inv.cls.2
  have z4 := B4.size
  have u4 : n4 < W4.heap.size := (MA.at 5 rfl).lt
  clear inv R4
  change wpList _ _ _ (_ :: [_, _]) _ _
  generalize List.toArray (List.foldl addEdge _ _) = ops9
  refine wpList_store_row rfl 30 _ _ rfl n4 (fcells FF) rfl rfl 30 _ (MA.at 5 rfl) (by rw [fcells_size]; exact sizeFd) (by rw [hz.out, fcells_size]) (fcells_one _) ?_
  have MC := MA.row 5 rfl (fcells FF)
  have hr4 := marks_row W4 n4 (fcells FF)
  have q4 : (W4.setRow n4 (fcells FF)).heap.size = W4.heap.size := by simp
  have H4 := Lib.hid (v4.marked hr4 (by omega))
  replace H1 := Lib.hid ((H1.out.later B4).marked hr4 (by omega))
  replace U4 := Lib.hid ((U4.out.later B4).marked hr4 (by omega))
  clear MA hr4 v4 B4
  generalize World.setRow _ _ _ = V4 at MC H4 q4 H1 U4 ⊢
  have N4 : Mem w V4 [⟨w.heap.size, fcells f, 27⟩, ⟨w.heap.size + 1, acells .i16 100 g, 25⟩, ⟨w.heap.size + 1 + 1, flc a, 29⟩, ⟨n1, fcells FF, 30⟩, ⟨n2, fcells FF, 30⟩, ⟨n4, fcells FF, 30⟩] := MC
  clear MC
  have ok1 : True := trivial
  have ok2 : True := trivial
  go_upto_region 17 with (first
    | (clear ok1; refine wpList_load_part rfl 30 _ rfl n4 0 rfl (fcells FF) _ (N4.at 5 rfl).whole Tryd.underlying30 rfl (by rw [fcells_size]; exact sizeFd) ?_)
    | (clear ok2; refine wpList_load_part rfl 30 _ rfl n1 0 rfl (fcells FF) _ (N4.at 3 rfl).whole Tryd.underlying30 rfl (by rw [fcells_size]; exact sizeFd) ?_)
    | (go_at_call 14; refine (eqField_same FF hw hh _).mono ?_; rintro e X4 ⟨rfl, hb⟩; have Y4 := N4.call hb; have s4 := hb.size; replace H1 := Lib.hid (H1.out.later hb); replace H4 := Lib.hid (H4.out.later hb); replace U4 := Lib.hid (U4.out.later hb); clear N4 hb)
    | (go_at_call 18; refine (Veq_J _ hrb _ _ _ _ _ _ H4.out.j H1.out.j).mono ?_; rintro e P4 ⟨rfl, hb⟩; have R4 := Y4.call hb; have t4 := hb.size; replace U4 := Lib.hid (U4.out.later hb); clear H1 H4; clear Y4 hb))
  go_wp2_with (go_at_call 20; refine (Vheld_any _ hrb (1) (by omega) _ _ _ U4.out).mono ?_; rintro e P8 ⟨rfl, hb8⟩; have R8 := R4.call hb8; clear hb8 R4 U4)
  go_ret
  exact ⟨rfl, R8.below⟩
theorem trodVars_len {H : Type} {enc : TypeId × Value → H} {P : Program} {w : World} {sp : Nat → Bool} : ∀ {ns : List String} {gs : List (DataW H)} {ps : List MemPlace}, DataW.TrodVars enc P w sp ns gs ps → gs.length = ns.length
  | [], [], _, _ => rfl
  | [], _ :: _, _, h => h.elim
  | _ :: _, [], _, h => h.elim
  | _ :: _, _ :: _, _, ⟨_, _, _, _, _, _, _, _, _, _, h, _⟩ => congrArg (· + 1) (trodVars_len h)
theorem door_met (os : Os) (args : Array Value) : laidMetH Tryd.prog Rows.fnExactFeedFlockRow.laid ((World.doorLaid Tryd.prog 400 os).forCall (fun _ _ => 0) ⟨#[], args, []⟩).memory :=
  laidMetH_of_parts3 (fuel := 8) (laidMet_of_run' 8 (by kernel_rfl) (by kernel_rfl)) (by kernel_rfl) (by kernel_rfl)
set_option maxRecDepth 100000 in
theorem lifted (os : Os) (started : os.Started) (H : Type) (enc : TypeId × Value → H) :
    ReturnsInHanded {} Tryd.checked os 4 .any (fun w args => (Rows.fnExactFeedFlockSpec.pre enc Tryd.prog Tryd.f4 Rows.fnExactFeedFlockRow.domain false w args ∧ laidMetH Tryd.prog Rows.fnExactFeedFlockRow.laid w) ∧ sizedMet enc Tryd.prog Tryd.f4 (OpenSpec.ofChange Rows.fnExactFeedFlockSpec) false w args) (Rows.fnExactFeedFlockSpec.post enc Tryd.prog Tryd.f4 false true false false) := by
  refine returnsInHanded_of_change_and (C := Tryd.checked) (X := fun w _ => laidMetH Tryd.prog Rows.fnExactFeedFlockRow.laid w) (fun _ _ _ hh h => h.of_heap hh) own started (by kernel_rfl) Tryd.func4
    (ChangeSpec.witness_shaped (enc := enc) (C := Tryd.checked) (os := os) (X := fun w _ => laidMetH Tryd.prog Rows.fnExactFeedFlockRow.laid w) false (World.doorLaid Tryd.prog 400 os) #[.agg (fcells Fd.zero), .agg (acells .i16 100 (fun _ => 0)), vFlock (fun _ => 0)] 8 rfl (World.shaped_of_RefB (by kernel_rfl) (by kernel_rfl)) (by kernel_rfl) (by kernel_rfl) (by kernel_rfl) (door_met os _)) ?_
  intro W base args ds gs before hval0 hW _ _ hL _
  have hval : ∀ (j : Nat) t v, Tryd.f4.params[j]? = some t → args[j]? = some v → Value.okWide Tryd.prog W .any base t v := hval0
  have hW' := hW
  obtain ⟨p, q, hA0, hV0, rfl, hfz, hnd⟩ := hW
  have hA : DataW.TrodAll enc Tryd.prog W 0 (fun _ => true) true Tryd.f4.params.toList args.toList ds p := hA0
  have hV : DataW.TrodVars enc Tryd.prog W (fun _ => true) Rows.fnExactFeedFlockSpec.vars gs q := hV0
  rw [Tryd.params4] at hA hval
  obtain ⟨v0, vs0, d0, ds0, p0, q0, hargs, rfl, rfl, h0, r0⟩ := trodAll_cons hA
  obtain ⟨v1, vs1, d1, ds1, p1, q1, rfl, rfl, rfl, h1, r1⟩ := trodAll_cons r0
  obtain ⟨v2, vs2, d2, ds2, p2, q2, rfl, rfl, rfl, h2, r2⟩ := trodAll_cons r1
  obtain ⟨rfl, rfl, rfl⟩ := trodAll_nil r2
  obtain rfl : args = #[v0, v1, v2] := by cases args; simp_all
  rw [MakeChecks.laidMetH_plain _ _ _ (by kernel_rfl)] at hL
  obtain ⟨A, SV⟩ := sentVars (rest := [(tabName, Rows.laid_loop_example_g01338_impl_mostOfFlock)]) hL
  have T : TabAt W := by
    obtain ⟨ps, hv, _, _⟩ := hL
    obtain ⟨_, _, _, _, _, _, _, _, _, _, hv, _⟩ := hv
    obtain ⟨_, _, _, _, _, _, _, _, _, _, hv, _⟩ := hv
    obtain ⟨_, _, _, _, _, _, _, _, _, _, hv, _⟩ := hv
    obtain ⟨_, _, _, _, _, _, _, _, _, _, hv, _⟩ := hv
    obtain ⟨_, _, _, _, _, _, _, _, _, _, hv, _⟩ := hv
    obtain ⟨_, _, _, _, _, _, _, _, _, _, hv, _⟩ := hv
    obtain ⟨_, _, _, _, _, _, _, _, _, _, hv, _⟩ := hv
    obtain ⟨_, _, _, _, _, _, _, _, _, _, hv, _⟩ := hv
    exact tab_of hv
  have hlen := trodVars_len hV
  obtain ⟨gv1, gv2, gv3, gv4, gv5, gv6, gv7, gv8, gv9, rfl⟩ : ∃ gv1 gv2 gv3 gv4 gv5 gv6 gv7 gv8 gv9, gs = [gv1, gv2, gv3, gv4, gv5, gv6, gv7, gv8, gv9] := by
    match gs, hlen with
    | [gv1, gv2, gv3, gv4, gv5, gv6, gv7, gv8, gv9], _ => exact ⟨gv1, gv2, gv3, gv4, gv5, gv6, gv7, gv8, gv9, rfl⟩
  have k0 := h0
  have lt0 : ∀ x ∈ p0, x.block < W.heap.size := by obtain ⟨m, hm⟩ := k0; exact DataW.trod_lt m _ _ _ hm
  have k1 := h1
  have lt1 : ∀ x ∈ p1, x.block < W.heap.size := by obtain ⟨m, hm⟩ := k1; exact DataW.trod_lt m _ _ _ hm
  have k2 := h2
  have lt2 : ∀ x ∈ p2, x.block < W.heap.size := by obtain ⟨m, hm⟩ := k2; exact DataW.trod_lt m _ _ _ hm
  obtain ⟨f0, rfl, hf0⟩ := open_field (fs := Tryd.prog.fieldsOf 27) (by kernel_rfl) (by kernel_rfl) Tryd.underlying22 Tryd.underlying23 Tryd.underlying5 Tryd.underlying25 Tryd.underlying24 (by kernel_rfl) (by kernel_rfl) (by kernel_rfl) (by kernel_rfl) (by kernel_rfl) (by kernel_rfl) (hval 0 27 v0 rfl rfl) h0
  obtain ⟨f1, rfl, hf1⟩ := open_row (q := .i16) Tryd.underlying25 Tryd.underlying24 (by kernel_rfl) (by kernel_rfl) (hval 1 25 v1 rfl rfl) h1
  obtain ⟨a2, rfl, ha2⟩ := open_row1 (ks := ksFlock) (fs := Tryd.prog.fieldsOf 29) (by kernel_rfl) (by kernel_rfl) (by kernel_rfl) (hval 2 29 v2 rfl rfl) h2
  clear hA0 hval0 hV0
  refine (walk W f0 hf0 f1 hf1 a2 ha2 A T SV.sents).mono fun e W' ⟨he, bel⟩ => ?_
  subst he
  exact ⟨_, rfl, _, _, _, [], _, _, hW', trodAll_mk1 (shut_bool Tryd.underlying4 _), (trodAll_cons_mk (Below.trod laidOut (by kernel_rfl) (of_decide_eq_true (by kernel_rfl)) k0 bel lt0) (trodAll_cons_mk (Below.trod laidOut (by kernel_rfl) (of_decide_eq_true (by kernel_rfl)) k1 bel lt1) (trodAll_cons_mk (Below.trod laidOut (by kernel_rfl) (of_decide_eq_true (by kernel_rfl)) k2 bel lt2) trodAll_mk0))), Below.trodVars laidOut bel (by kernel_rfl) hV, bel.frame _, fun h => by cases h⟩

theorem over : Rows.fnExactFeedFlockRow.holds Tryd.pinned (OpenSpec.ofChange Rows.fnExactFeedFlockSpec) :=
  OpenClaim.holds_of_wide 4 Tryd.f4 rfl rfl rfl rfl rfl rfl rfl ⟨rfl, rfl, rfl, rfl, rfl⟩ rfl rfl rfl rfl rfl (by kernel_rfl) Tryd.func4 (by kernel_rfl)
    (of_decide_eq_true (by kernel_rfl)) (by unfold Func.isWrapper; first | (rw [if_pos (by decide +kernel)]; kernel_rfl) | (rw [if_neg (by decide +kernel)]; exact ⟨rfl, rfl⟩))
    (fun os started H enc _ => lifted os started H enc)
theorem proved : Rows.FnExactFeedFlockCardSaid :=
  Claim7.holds_tied_plain_at .later [] [.sentinel, .sentinel, .sentinel, .sentinel, .sentinel, .sentinel, .sentinel, .sentinel, .data] true (true, "12764da00c9b4c602e80c2758c989fcc8950fe1572823cb35943fe2ef56628fc") true
    over (fun _ h => by cases h) (by kernel_rfl) (fun _ h => by cases h) fnExactFeedFlock_row_tie rfl ⟨rfl, rfl⟩ (by kernel_rfl) rfl
    (fun f fn hf hfn => by
      obtain rfl : f = 4 := Option.some.inj ((show Tryd.prog.funcNamed "loop.example/g01338/laws.FnExactFeedFlock" = some 4 by kernel_rfl).symm.trans hf) |>.symm
      obtain rfl : fn = Tryd.f4 := (Option.some.inj (Tryd.func4.symm.trans hfn)).symm
      exact ⟨by kernel_rfl, fun j t ht => by
        rw [Tryd.params4] at ht
        have hm : t ∈ [27, 25, 29] := by simpa using Array.mem_of_getElem? ht
        have hall : ([27, 25, 29].all fun u => !Tryd.prog.wantsStandIn u) = true := by kernel_rfl
        exact (show Tryd.prog.wantsStandIn t = false by simpa using List.all_eq_true.1 hall t hm)⟩)
    (by kernel_rfl)
#print axioms proved
end Go.Proofs.YtaioflkonpommaaDoor.lawFeedFlock
