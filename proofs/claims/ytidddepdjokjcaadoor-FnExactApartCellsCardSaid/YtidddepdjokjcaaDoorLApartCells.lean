/-
  ApartCells: for all arguments the program answers as the model does, and its memory is its own: no condition beyond the listed sentinels, which the card ties to the program's text.
-/
import Derived.Test.YtidddepdjokjcaaDoorApaI
import Derived.Test.YtidddepdjokjcaaDoorLstN
import Derived.Test.YtidddepdjokjcaaDoorRelR
import Derived.Test.YtidddepdjokjcaaDoorCoreB
import Derived.Test.YtidddepdjokjcaaDoorLawh
import Derived.Test.YtidddepdjokjcaaDoorCard
import Derived.Test.YtidddepdjokjcaaDoorTie
import Derived.Test.YtidddepdjokjcaaDoorCards
import Derived.SevenTiedAt
import Derived.OpenVars
namespace Go.Proofs.YtidddepdjokjcaaDoor.lawApartCells
open Go Go.ChangeShapes Go.WideShapes Go.ChangeAt Go.RowKit

set_option maxRecDepth 100000 in
set_option maxHeartbeats 16000000 in
theorem walk (w : World) (f : Fd) (hff : f.Wf) (x : Int) (wx : (Lit.int .i64 x).wf = true) (y : Int) (wy : (Lit.int .i64 y).wf = true) (t : Nat → Int) (hut : ∀ i, i < 2 → (Lit.int .u64 (t i)).wf = true) (A : Nat → Addr) (S0 : Sents w A) :
    Calls Tryd.prog 4 #[.agg (fcells f), .int .i64 x, .int .i64 y, .agg (acells .u64 2 t)] w fun e w' => e = .returned (.bool true) ∧ Below w.heap.size w w' := by
  have S : Hid (Sents w A) := Lib.hid S0
  clear S0
  obtain ⟨x1, x2⟩ := bounds_i64 wx
  obtain ⟨y1, y2⟩ := bounds_i64 wy
  have hrb := apN_le f x y t
  obtain ⟨rn, hrn⟩ : ∃ res, apN f x y t = res := ⟨_, rfl⟩
  rw [hrn] at hrb
  obtain ⟨rc, hrc⟩ : ∃ res, apCode f x y = res := ⟨_, rfl⟩
  obtain ⟨bv, hbv⟩ : ∃ res : Nat → Int, apG f x y t = res := ⟨_, rfl⟩
  have HN := Lib.hid hrn
  have HC := Lib.hid hrc
  have HB := Lib.hid hbv
  clear hrn hrc hbv
  go_enter Tryd.func4, Tryd.ntmps4
  go_upto_region 1 with (fail)
  obtain ⟨W, hW, M⟩ := open2 w (fcells f) 27 (acells .u64 2 (t)) 29
  rw [hW]; clear hW
  have HM0 := Lib.hid M.before
  have z0 : w.heap.size ≤ W.heap.size := M.below.size
  refine wp_region_rel (DL [dV (.agg (fcells f)), dV (.agg (fcells f)), dV (.int .i64 x), dV (.int .i64 y), dV (.agg (acells .u64 2 (t))), dV (.agg (acells .u64 2 t)), dP (fun v lo hi w9 => ∃ p c, v = .tuple #[.slice p rn c, .int .i64 rc] ∧ NV lo hi w9 p rn bv), dR id, dR (tupAt 0), dR (tupAt 1), dR id, dR id]) (fun w' => Mem w w' [⟨w.heap.size, fcells f, 27⟩, ⟨w.heap.size + 1, acells .u64 2 (t), 29⟩]) (by kernel_rfl) (by kernel_rfl) grows_mem
    (stays_DL (fun d hd => by
      simp only [List.mem_cons, List.mem_nil_iff, or_false] at hd
      rcases hd with rfl | rfl | rfl | rfl | rfl | rfl | rfl | rfl | rfl | rfl | rfl | rfl <;> first | exact stay_V | exact stay_P | exact stay_R)) M.drew ?_
  refine rel_load 27 _ rfl (w.heap.size) (0) rfl (fcells f) _ rfl rfl (fun w' hw' => (hw'.at 0 rfl).whole) Tryd.underlying27 rfl (by rw [fcells_size]; exact sizeFl) (fun _ => ?_)
  simp only [Act.put, List.setIfInBounds_toArray, List.set_cons_zero, List.set_cons_succ]
  refine rel_call (.agg (fcells f)) 7 #[.agg (fcells f)] rfl rfl rfl rfl (enters_of Tryd.func7 (by kernel_rfl) rfl) (fun w' _ => toField f w') (fun _ => ?_)
  simp only [Act.put, List.setIfInBounds_toArray, List.set_cons_zero, List.set_cons_succ]
  refine rel_val _ rfl rfl (fun _ _ => rfl) (fun _ => ?_)
  simp only [Act.put, List.setIfInBounds_toArray, List.set_cons_zero, List.set_cons_succ]
  refine rel_val _ rfl rfl (fun _ _ => rfl) (fun _ => ?_)
  simp only [Act.put, List.setIfInBounds_toArray, List.set_cons_zero, List.set_cons_succ]
  refine rel_load 29 _ rfl (w.heap.size + 1) (0) rfl (acells .u64 2 (t)) _ rfl rfl (fun w' hw' => (hw'.at 1 rfl).whole) Tryd.underlying29 rfl (by rw [acells_size]; exact sizeA) (fun _ => ?_)
  simp only [Act.put, List.setIfInBounds_toArray, List.set_cons_zero, List.set_cons_succ]
  refine rel_call (.agg (acells .u64 2 t)) 8 #[.agg (acells .u64 2 t)] rfl rfl rfl rfl (enters_of Tryd.func8 (by kernel_rfl) rfl) (fun w' _ => toCells t w') (fun _ => ?_)
  simp only [Act.put, List.setIfInBounds_toArray, List.set_cons_zero, List.set_cons_succ]
  refine rel_callP _ 12 #[.agg (fcells f), .int .i64 x, .int .i64 y, .agg (acells .u64 2 t)] rfl rfl rfl rfl (enters_of Tryd.func12 (by kernel_rfl) rfl) (fun w' hw' => (specApartCells f hff x y t w').mono (fun e w2 h => by
    obtain ⟨p, c, he, hv, hw, hb⟩ := h
    rw [HN.out, HC.out] at he
    rw [HN.out, HB.out] at hv
    rw [HN.out] at hw
    exact ⟨_, he, hb, fun w3 hb3 => ⟨p, c, rfl, hv.later hb3⟩⟩)) (fun v lo1 hi1 hle1 hv => ?_)
  obtain ⟨_, _, p1, c1, rfl, _⟩ := hv
  simp only [Act.put, List.setIfInBounds_toArray, List.set_cons_zero, List.set_cons_succ]
  refine rel_read id (.tuple #[.slice p1 rn c1, .int .i64 rc]) rfl (by simp [readBy, Op.operands, Act.eval, tupAt]) rfl (fun _ _ => rfl) (fun _ => ?_)
  simp only [Act.put, List.setIfInBounds_toArray, List.set_cons_zero, List.set_cons_succ]
  refine rel_read (tupAt 0) (.slice p1 rn c1) rfl (by simp [readBy, Op.operands, Act.eval, tupAt]) rfl (fun _ _ => rfl) (fun _ => ?_)
  simp only [Act.put, List.setIfInBounds_toArray, List.set_cons_zero, List.set_cons_succ]
  refine rel_read (tupAt 1) (.int .i64 rc) rfl (by simp [readBy, Op.operands, Act.eval, tupAt]) rfl (fun _ _ => rfl) (fun _ => ?_)
  simp only [Act.put, List.setIfInBounds_toArray, List.set_cons_zero, List.set_cons_succ]
  refine rel_read id (.slice p1 rn c1) rfl (by simp [readBy, Op.operands, Act.eval, tupAt]) rfl (fun _ _ => rfl) (fun _ => ?_)
  simp only [Act.put, List.setIfInBounds_toArray, List.set_cons_zero, List.set_cons_succ]
  refine rel_read id (.int .i64 rc) rfl (by simp [readBy, Op.operands, Act.eval, tupAt]) rfl (fun _ _ => rfl) (fun _ => ?_)
  simp only [Act.put, List.setIfInBounds_toArray, List.set_cons_zero, List.set_cons_succ]
  refine rel_nil (fun W1 inv => ?_)
  obtain ⟨a1, x1, y1, ⟨_, _, e1, V1⟩, _⟩ := inv.fact 6 _ rfl
  have a1 : W.heap.size ≤ lo1 := a1
  have z1 : W.heap.size ≤ W1.heap.size := inv.ge
  obtain ⟨rfl, rfl⟩ : p1 = _ ∧ c1 = _ := by simpa using e1
  clear e1
  have M1 := inv.cls
  clear inv M
  have H1 := Lib.hid V1
  clear V1
  go_upto_region 2 with (fail)
  refine wp_region_rel (DL [dV (.agg (fcells f)), dV (.agg (fcells f)), dV (.int .i64 x), dV (.int .i64 y), dV (.agg (acells .u64 2 (t))), dV (.agg (acells .u64 2 t)), dP (fun v lo hi w9 => ∃ p c, v = .tuple #[.slice p rn c, .int .i64 rc] ∧ NV lo hi w9 p rn bv ∧ NW lo hi w9 p rn), dR id, dR (tupAt 0), dR (tupAt 1), dR id, dR id]) (fun w' => (Mem w w' [⟨w.heap.size, fcells f, 27⟩, ⟨w.heap.size + 1, acells .u64 2 (t), 29⟩]) ∧ Below W1.heap.size W1 w') (by kernel_rfl) (by kernel_rfl) grows_memB
    (stays_DL (fun d hd => by
      simp only [List.mem_cons, List.mem_nil_iff, or_false] at hd
      rcases hd with rfl | rfl | rfl | rfl | rfl | rfl | rfl | rfl | rfl | rfl | rfl | rfl <;> first | exact stay_V | exact stay_P | exact stay_R)) ⟨M1.drew, (Below.refl _ _).drew⟩ ?_
  refine rel_load 27 _ rfl (w.heap.size) (0) rfl (fcells f) _ rfl rfl (fun w' hw' => (hw'.1.at 0 rfl).whole) Tryd.underlying27 rfl (by rw [fcells_size]; exact sizeFl) (fun _ => ?_)
  simp only [Act.put, List.setIfInBounds_toArray, List.set_cons_zero, List.set_cons_succ]
  refine rel_call (.agg (fcells f)) 7 #[.agg (fcells f)] rfl rfl rfl rfl (enters_of Tryd.func7 (by kernel_rfl) rfl) (fun w' _ => toField f w') (fun _ => ?_)
  simp only [Act.put, List.setIfInBounds_toArray, List.set_cons_zero, List.set_cons_succ]
  refine rel_val _ rfl rfl (fun _ _ => rfl) (fun _ => ?_)
  simp only [Act.put, List.setIfInBounds_toArray, List.set_cons_zero, List.set_cons_succ]
  refine rel_val _ rfl rfl (fun _ _ => rfl) (fun _ => ?_)
  simp only [Act.put, List.setIfInBounds_toArray, List.set_cons_zero, List.set_cons_succ]
  refine rel_load 29 _ rfl (w.heap.size + 1) (0) rfl (acells .u64 2 (t)) _ rfl rfl (fun w' hw' => (hw'.1.at 1 rfl).whole) Tryd.underlying29 rfl (by rw [acells_size]; exact sizeA) (fun _ => ?_)
  simp only [Act.put, List.setIfInBounds_toArray, List.set_cons_zero, List.set_cons_succ]
  refine rel_call (.agg (acells .u64 2 t)) 8 #[.agg (acells .u64 2 t)] rfl rfl rfl rfl (enters_of Tryd.func8 (by kernel_rfl) rfl) (fun w' _ => toCells t w') (fun _ => ?_)
  simp only [Act.put, List.setIfInBounds_toArray, List.set_cons_zero, List.set_cons_succ]
  refine rel_callP _ 13 #[.agg (fcells f), .int .i64 x, .int .i64 y, .agg (acells .u64 2 t)] rfl rfl rfl rfl (enters_of Tryd.func13 (by kernel_rfl) rfl) (fun w' hw' => (implApartCells f hff x y t A w' (S.out.later hw'.1.below)).mono (fun e w2 h => by
    obtain ⟨p, c, he, hv, hw, hb⟩ := h
    rw [HN.out, HC.out] at he
    rw [HN.out, HB.out] at hv
    rw [HN.out] at hw
    exact ⟨_, he, hb, fun w3 hb3 => ⟨p, c, rfl, hv.later hb3, hw.later hb3⟩⟩)) (fun v lo2 hi2 hle2 hv => ?_)
  obtain ⟨_, _, p2, c2, rfl, _⟩ := hv
  simp only [Act.put, List.setIfInBounds_toArray, List.set_cons_zero, List.set_cons_succ]
  refine rel_read id (.tuple #[.slice p2 rn c2, .int .i64 rc]) rfl (by simp [readBy, Op.operands, Act.eval, tupAt]) rfl (fun _ _ => rfl) (fun _ => ?_)
  simp only [Act.put, List.setIfInBounds_toArray, List.set_cons_zero, List.set_cons_succ]
  refine rel_read (tupAt 0) (.slice p2 rn c2) rfl (by simp [readBy, Op.operands, Act.eval, tupAt]) rfl (fun _ _ => rfl) (fun _ => ?_)
  simp only [Act.put, List.setIfInBounds_toArray, List.set_cons_zero, List.set_cons_succ]
  refine rel_read (tupAt 1) (.int .i64 rc) rfl (by simp [readBy, Op.operands, Act.eval, tupAt]) rfl (fun _ _ => rfl) (fun _ => ?_)
  simp only [Act.put, List.setIfInBounds_toArray, List.set_cons_zero, List.set_cons_succ]
  refine rel_read id (.slice p2 rn c2) rfl (by simp [readBy, Op.operands, Act.eval, tupAt]) rfl (fun _ _ => rfl) (fun _ => ?_)
  simp only [Act.put, List.setIfInBounds_toArray, List.set_cons_zero, List.set_cons_succ]
  refine rel_read id (.int .i64 rc) rfl (by simp [readBy, Op.operands, Act.eval, tupAt]) rfl (fun _ _ => rfl) (fun _ => ?_)
  simp only [Act.put, List.setIfInBounds_toArray, List.set_cons_zero, List.set_cons_succ]
  refine rel_nil (fun W2 inv => ?_)
  obtain ⟨a2, x2, y2, ⟨_, _, e2, V2, N2⟩, _⟩ := inv.fact 6 _ rfl
  have a2 : W1.heap.size ≤ lo2 := a2
  have z2 : W1.heap.size ≤ W2.heap.size := inv.ge
  obtain ⟨rfl, rfl⟩ : p2 = _ ∧ c2 = _ := by simpa using e2
  clear e2
  have M2 := inv.cls.1
  have B2 := inv.cls.2
  clear inv M1
  have H2 := Lib.hid (H1.out.later B2)
  have G2 := Lib.hid V2
  have K2 := Lib.hid N2
  clear V2 N2 B2 H1
  go_upto_region 6 with (go_at_call 11; refine (Neq_J _ hrb _ _ _ _ _ _ G2.out.j H2.out.j).mono ?_; rintro e W3 ⟨rfl, hb3⟩; have M3 := M2.call hb3; have z3 := hb3.size; have H3 := Lib.hid (H2.out.later hb3); have K3 := Lib.hid (K2.out.later hb3); clear hb3 M2 H2 G2 K2)
  go_upto_region 8 with (go_at_call 14; refine (Nmark_any _ hrb (1) (by omega) _ _ _ K3.out).mono ?_; rintro e W4 ⟨rfl, hm, v0⟩; have M4 := NMem.marked M3 hm (by omega) (fun i e h => Or.inl (Nat.lt_of_lt_of_le (HM0.out i e h) (by omega))); have z4 := hm.size; have H4 := Lib.hid (H3.out.marked hm (by omega)); have V4 := Lib.hid v0; clear hm v0 M3 H3 K3)
  go_upto_region 13 with (go_at_call 15; refine (Nheld_any _ hrb (1) (by omega) _ _ _ V4.out).mono ?_; rintro e W5 ⟨rfl, hb5⟩; have M5 := M4.call hb5; have z5 := hb5.size; have H5 := Lib.hid (H4.out.later hb5); have V5 := Lib.hid (V4.out.later hb5); clear hb5 M4 H4 V4)
  refine wp_region_rel (DL [dV (.agg (fcells f)), dV (.agg (fcells f)), dV (.int .i64 x), dV (.int .i64 y), dV (.agg (acells .u64 2 (t))), dV (.agg (acells .u64 2 t)), dP (fun v lo hi w9 => ∃ p c, v = .tuple #[.slice p rn c, .int .i64 rc] ∧ NV lo hi w9 p rn bv), dR id, dR (tupAt 0), dR (tupAt 1), dR id, dR id]) (fun w' => (Mem w w' [⟨w.heap.size, fcells f, 27⟩, ⟨w.heap.size + 1, acells .u64 2 (t), 29⟩]) ∧ Below W5.heap.size W5 w') (by kernel_rfl) (by kernel_rfl) grows_memB
    (stays_DL (fun d hd => by
      simp only [List.mem_cons, List.mem_nil_iff, or_false] at hd
      rcases hd with rfl | rfl | rfl | rfl | rfl | rfl | rfl | rfl | rfl | rfl | rfl | rfl <;> first | exact stay_V | exact stay_P | exact stay_R)) ⟨M5.drew, (Below.refl _ _).drew⟩ ?_
  refine rel_load 27 _ rfl (w.heap.size) (0) rfl (fcells f) _ rfl rfl (fun w' hw' => (hw'.1.at 0 rfl).whole) Tryd.underlying27 rfl (by rw [fcells_size]; exact sizeFl) (fun _ => ?_)
  simp only [Act.put, List.setIfInBounds_toArray, List.set_cons_zero, List.set_cons_succ]
  refine rel_call (.agg (fcells f)) 7 #[.agg (fcells f)] rfl rfl rfl rfl (enters_of Tryd.func7 (by kernel_rfl) rfl) (fun w' _ => toField f w') (fun _ => ?_)
  simp only [Act.put, List.setIfInBounds_toArray, List.set_cons_zero, List.set_cons_succ]
  refine rel_val _ rfl rfl (fun _ _ => rfl) (fun _ => ?_)
  simp only [Act.put, List.setIfInBounds_toArray, List.set_cons_zero, List.set_cons_succ]
  refine rel_val _ rfl rfl (fun _ _ => rfl) (fun _ => ?_)
  simp only [Act.put, List.setIfInBounds_toArray, List.set_cons_zero, List.set_cons_succ]
  refine rel_load 29 _ rfl (w.heap.size + 1) (0) rfl (acells .u64 2 (t)) _ rfl rfl (fun w' hw' => (hw'.1.at 1 rfl).whole) Tryd.underlying29 rfl (by rw [acells_size]; exact sizeA) (fun _ => ?_)
  simp only [Act.put, List.setIfInBounds_toArray, List.set_cons_zero, List.set_cons_succ]
  refine rel_call (.agg (acells .u64 2 t)) 8 #[.agg (acells .u64 2 t)] rfl rfl rfl rfl (enters_of Tryd.func8 (by kernel_rfl) rfl) (fun w' _ => toCells t w') (fun _ => ?_)
  simp only [Act.put, List.setIfInBounds_toArray, List.set_cons_zero, List.set_cons_succ]
  refine rel_callP _ 13 #[.agg (fcells f), .int .i64 x, .int .i64 y, .agg (acells .u64 2 t)] rfl rfl rfl rfl (enters_of Tryd.func13 (by kernel_rfl) rfl) (fun w' hw' => (implApartCells f hff x y t A w' (S.out.later hw'.1.below)).mono (fun e w2 h => by
    obtain ⟨p, c, he, hv, hw, hb⟩ := h
    rw [HN.out, HC.out] at he
    rw [HN.out, HB.out] at hv
    rw [HN.out] at hw
    exact ⟨_, he, hb, fun w3 hb3 => ⟨p, c, rfl, hv.later hb3⟩⟩)) (fun v lo6 hi6 hle6 hv => ?_)
  obtain ⟨_, _, p6, c6, rfl, _⟩ := hv
  simp only [Act.put, List.setIfInBounds_toArray, List.set_cons_zero, List.set_cons_succ]
  refine rel_read id (.tuple #[.slice p6 rn c6, .int .i64 rc]) rfl (by simp [readBy, Op.operands, Act.eval, tupAt]) rfl (fun _ _ => rfl) (fun _ => ?_)
  simp only [Act.put, List.setIfInBounds_toArray, List.set_cons_zero, List.set_cons_succ]
  refine rel_read (tupAt 0) (.slice p6 rn c6) rfl (by simp [readBy, Op.operands, Act.eval, tupAt]) rfl (fun _ _ => rfl) (fun _ => ?_)
  simp only [Act.put, List.setIfInBounds_toArray, List.set_cons_zero, List.set_cons_succ]
  refine rel_read (tupAt 1) (.int .i64 rc) rfl (by simp [readBy, Op.operands, Act.eval, tupAt]) rfl (fun _ _ => rfl) (fun _ => ?_)
  simp only [Act.put, List.setIfInBounds_toArray, List.set_cons_zero, List.set_cons_succ]
  refine rel_read id (.slice p6 rn c6) rfl (by simp [readBy, Op.operands, Act.eval, tupAt]) rfl (fun _ _ => rfl) (fun _ => ?_)
  simp only [Act.put, List.setIfInBounds_toArray, List.set_cons_zero, List.set_cons_succ]
  refine rel_read id (.int .i64 rc) rfl (by simp [readBy, Op.operands, Act.eval, tupAt]) rfl (fun _ _ => rfl) (fun _ => ?_)
  simp only [Act.put, List.setIfInBounds_toArray, List.set_cons_zero, List.set_cons_succ]
  refine rel_nil (fun W6 inv => ?_)
  obtain ⟨a6, x6, y6, ⟨_, _, e6, V6⟩, _⟩ := inv.fact 6 _ rfl
  have a6 : W5.heap.size ≤ lo6 := a6
  have z6 : W5.heap.size ≤ W6.heap.size := inv.ge
  obtain ⟨rfl, rfl⟩ : p6 = _ ∧ c6 = _ := by simpa using e6
  clear e6
  have M6 := inv.cls.1
  have B6 := inv.cls.2
  clear inv M5
  have H6 := Lib.hid (H5.out.later B6)
  have G6 := Lib.hid V6
  have U6 := Lib.hid (V5.out.later B6)
  clear V6 B6 H5 V5
  go_upto_region 17 with (go_at_call 11; refine (Neq_J _ hrb _ _ _ _ _ _ G6.out.j H6.out.j).mono ?_; rintro e W7 ⟨rfl, hb7⟩; have M7 := M6.call hb7; have U7 := Lib.hid (U6.out.later hb7); clear hb7 M6 U6 G6 H6)
  go_wp2_with (go_at_call 15; refine (Nheld_any _ hrb (1) (by omega) _ _ _ U7.out).mono ?_; rintro e W8 ⟨rfl, hb8⟩; have M8 := M7.call hb8; clear hb8 M7 U7)
  go_ret
  exact ⟨rfl, M8.below⟩
theorem trodVars_len {H : Type} {enc : TypeId × Value → H} {P : Program} {w : World} {sp : Nat → Bool} : ∀ {ns : List String} {gs : List (DataW H)} {ps : List MemPlace}, DataW.TrodVars enc P w sp ns gs ps → gs.length = ns.length
  | [], [], _, _ => rfl
  | [], _ :: _, _, h => h.elim
  | _ :: _, [], _, h => h.elim
  | _ :: _, _ :: _, _, ⟨_, _, _, _, _, _, _, _, _, _, h, _⟩ => congrArg (· + 1) (trodVars_len h)
theorem door_met (os : Os) (args : Array Value) : laidMetH Tryd.prog Rows.fnExactApartCellsRow.laid ((World.doorLaid Tryd.prog 400 os).forCall (fun _ _ => 0) ⟨#[], args, []⟩).memory :=
  laidMetH_of_parts3 (fuel := 8) (laidMet_of_run' 8 (by kernel_rfl) (by kernel_rfl)) (by kernel_rfl) (by kernel_rfl)
set_option maxRecDepth 100000 in
theorem lifted (os : Os) (started : os.Started) (H : Type) (enc : TypeId × Value → H) :
    ReturnsInHanded {} Tryd.checked os 4 .any (fun w args => (Rows.fnExactApartCellsSpec.pre enc Tryd.prog Tryd.f4 Rows.fnExactApartCellsRow.domain false w args ∧ laidMetH Tryd.prog Rows.fnExactApartCellsRow.laid w) ∧ sizedMet enc Tryd.prog Tryd.f4 (OpenSpec.ofChange Rows.fnExactApartCellsSpec) false w args) (Rows.fnExactApartCellsSpec.post enc Tryd.prog Tryd.f4 false true false false) := by
  refine returnsInHanded_of_change_and (C := Tryd.checked) (X := fun w _ => laidMetH Tryd.prog Rows.fnExactApartCellsRow.laid w) (fun _ _ _ hh h => h.of_heap hh) own started (by kernel_rfl) Tryd.func4
    (ChangeSpec.witness_shaped (enc := enc) (C := Tryd.checked) (os := os) (X := fun w _ => laidMetH Tryd.prog Rows.fnExactApartCellsRow.laid w) false (World.doorLaid Tryd.prog 400 os) #[.agg (fcells Fd.zero), .int .i64 0, .int .i64 0, .agg (acells .u64 2 (fun _ => 0))] 8 rfl (World.shaped_of_RefB (by kernel_rfl) (by kernel_rfl)) (by kernel_rfl) (by kernel_rfl) (by kernel_rfl) (door_met os _)) ?_
  intro W base args ds gs before hval0 hW _ _ hL _
  have hval : ∀ (j : Nat) t v, Tryd.f4.params[j]? = some t → args[j]? = some v → Value.okWide Tryd.prog W .any base t v := hval0
  have hW' := hW
  obtain ⟨p, q, hA0, hV0, rfl, hfz, hnd⟩ := hW
  have hA : DataW.TrodAll enc Tryd.prog W 0 (fun _ => true) true Tryd.f4.params.toList args.toList ds p := hA0
  have hV : DataW.TrodVars enc Tryd.prog W (fun _ => true) Rows.fnExactApartCellsSpec.vars gs q := hV0
  rw [Tryd.params4] at hA hval
  obtain ⟨v0, vs0, d0, ds0, p0, q0, hargs, rfl, rfl, h0, r0⟩ := trodAll_cons hA
  obtain ⟨v1, vs1, d1, ds1, p1, q1, rfl, rfl, rfl, h1, r1⟩ := trodAll_cons r0
  obtain ⟨v2, vs2, d2, ds2, p2, q2, rfl, rfl, rfl, h2, r2⟩ := trodAll_cons r1
  obtain ⟨v3, vs3, d3, ds3, p3, q3, rfl, rfl, rfl, h3, r3⟩ := trodAll_cons r2
  obtain ⟨rfl, rfl, rfl⟩ := trodAll_nil r3
  obtain rfl : args = #[v0, v1, v2, v3] := by cases args; simp_all
  rw [MakeChecks.laidMetH_plain _ _ _ (by kernel_rfl)] at hL
  obtain ⟨A, SV⟩ := sentVars (rest := []) hL
  have hlen := trodVars_len hV
  obtain ⟨gv1, gv2, gv3, gv4, gv5, gv6, gv7, gv8, rfl⟩ : ∃ gv1 gv2 gv3 gv4 gv5 gv6 gv7 gv8, gs = [gv1, gv2, gv3, gv4, gv5, gv6, gv7, gv8] := by
    match gs, hlen with
    | [gv1, gv2, gv3, gv4, gv5, gv6, gv7, gv8], _ => exact ⟨gv1, gv2, gv3, gv4, gv5, gv6, gv7, gv8, rfl⟩
  have k0 := h0
  have lt0 : ∀ x ∈ p0, x.block < W.heap.size := by obtain ⟨m, hm⟩ := k0; exact DataW.trod_lt m _ _ _ hm
  have k1 := h1
  have lt1 : ∀ x ∈ p1, x.block < W.heap.size := by obtain ⟨m, hm⟩ := k1; exact DataW.trod_lt m _ _ _ hm
  have k2 := h2
  have lt2 : ∀ x ∈ p2, x.block < W.heap.size := by obtain ⟨m, hm⟩ := k2; exact DataW.trod_lt m _ _ _ hm
  have k3 := h3
  have lt3 : ∀ x ∈ p3, x.block < W.heap.size := by obtain ⟨m, hm⟩ := k3; exact DataW.trod_lt m _ _ _ hm
  obtain ⟨f0, rfl, hf0⟩ := open_field (fs := Tryd.prog.fieldsOf 27) (by kernel_rfl) (by kernel_rfl) Tryd.underlying22 Tryd.underlying23 Tryd.underlying5 Tryd.underlying25 Tryd.underlying24 (by kernel_rfl) (by kernel_rfl) (by kernel_rfl) (by kernel_rfl) (by kernel_rfl) (by kernel_rfl) (hval 0 27 v0 rfl rfl) h0
  obtain ⟨n1, rfl, rfl, rfl, wn1⟩ := open_int Tryd.underlying2 (hval 1 2 v1 rfl rfl) h1
  obtain ⟨n2, rfl, rfl, rfl, wn2⟩ := open_int Tryd.underlying2 (hval 2 2 v2 rfl rfl) h2
  obtain ⟨f3, rfl, hf3⟩ := open_row (q := .u64) Tryd.underlying29 Tryd.underlying28 (by kernel_rfl) (by kernel_rfl) (hval 3 29 v3 rfl rfl) h3
  clear hA0 hval0 hV0
  refine (walk W f0 hf0 n1 wn1 n2 wn2 f3 hf3 A SV.sents).mono fun e W' ⟨he, bel⟩ => ?_
  subst he
  exact ⟨_, rfl, _, _, _, [], _, _, hW', trodAll_mk1 (shut_bool Tryd.underlying4 _), (trodAll_cons_mk (Below.trod laidOut (by kernel_rfl) (of_decide_eq_true (by kernel_rfl)) k0 bel lt0) (trodAll_cons_mk (Below.trod laidOut (by kernel_rfl) (of_decide_eq_true (by kernel_rfl)) k1 bel lt1) (trodAll_cons_mk (Below.trod laidOut (by kernel_rfl) (of_decide_eq_true (by kernel_rfl)) k2 bel lt2) (trodAll_cons_mk (Below.trod laidOut (by kernel_rfl) (of_decide_eq_true (by kernel_rfl)) k3 bel lt3) trodAll_mk0)))), Below.trodVars laidOut bel (by kernel_rfl) hV, bel.frame _, fun h => by cases h⟩

theorem over : Rows.fnExactApartCellsRow.holds Tryd.pinned (OpenSpec.ofChange Rows.fnExactApartCellsSpec) :=
  OpenClaim.holds_of_wide 4 Tryd.f4 rfl rfl rfl rfl rfl rfl rfl ⟨rfl, rfl, rfl, rfl, rfl⟩ rfl rfl rfl rfl rfl (by kernel_rfl) Tryd.func4 (by kernel_rfl)
    (of_decide_eq_true (by kernel_rfl)) (by unfold Func.isWrapper; first | (rw [if_pos (by decide +kernel)]; kernel_rfl) | (rw [if_neg (by decide +kernel)]; exact ⟨rfl, rfl⟩))
    (fun os started H enc _ => lifted os started H enc)
theorem proved : Rows.FnExactApartCellsCardSaid :=
  Claim7.holds_tied_plain_at .later [] [.sentinel, .sentinel, .sentinel, .sentinel, .sentinel, .sentinel, .sentinel, .sentinel] true (true, "838aedac2a77173806cac9b66434b565f19b8b507333087aeaac2a25d991b319") true
    over (fun _ h => by cases h) (by kernel_rfl) (fun _ h => by cases h) fnExactApartCells_row_tie rfl ⟨rfl, rfl⟩ (by kernel_rfl) rfl
    (fun f fn hf hfn => by
      obtain rfl : f = 4 := Option.some.inj ((show Tryd.prog.funcNamed "loop.example/g01338/laws.FnExactApartCells" = some 4 by kernel_rfl).symm.trans hf) |>.symm
      obtain rfl : fn = Tryd.f4 := (Option.some.inj (Tryd.func4.symm.trans hfn)).symm
      exact ⟨by kernel_rfl, fun j t ht => by
        rw [Tryd.params4] at ht
        have hm : t ∈ [27, 2, 2, 29] := by simpa using Array.mem_of_getElem? ht
        have hall : ([27, 2, 2, 29].all fun u => !Tryd.prog.wantsStandIn u) = true := by kernel_rfl
        exact (show Tryd.prog.wantsStandIn t = false by simpa using List.all_eq_true.1 hall t hm)⟩)
    (by kernel_rfl)
#print axioms proved
end Go.Proofs.YtidddepdjokjcaaDoor.lawApartCells
