/-
  The laws' helpers on nets.
  The laws' comparisons and marks on nets.
  The laws' copies of an argument that is a list of nets.
-/
import Derived.Test.YtkhhkacmfkipgaaDoorStr
import Derived.Outline
import Derived.Deep.DeepCutAuto
import Derived.Laws.MakeOwn
import Derived.OwnWalk
import Derived.Test.YtkhhkacmfkipgaaDoorFlkEq
import Derived.RangeFuncNested
import Derived.Shelf.Abstract
import Derived.Test.YtkhhkacmfkipgaaDoorFlkIn
namespace Go.Proofs.YtkhhkacmfkipgaaDoor
section
open Go Go.RowKit

abbrev ksNet : List IntKind := [.i8, .i8, .i8, .i8]
/-- A net's value. -/
abbrev vNet (a : Nat → Int) : Value := .agg #[.int .i8 (a 0), .int .i8 (a 1), .int .i8 (a 2), .int .i8 (a 3)]
theorem vNet_eq (F : Nat → Nat → Int) (i : Nat) : Value.agg (srow ksNet F i) = vNet (F i) := rfl
theorem toNet_any (a : Nat → Int) (w : World) : Calls Tryd.prog 12 #[vNet a] w fun e w' => e = .returned (vNet a) ∧ Below w.heap.size w w' := by
  go_enter Tryd.func12, Tryd.ntmps12
  go_wp2_with fail
  exact bodyPost_ret (v := vNet a) (by simp [results, Tryd.results12, go_sem]) rfl ⟨rfl, (((Below.refl _ _).alloc (Nat.le_refl _) _).alloc (by simp) _).alloc (by simp; omega) _⟩
theorem toNet_row (F : Nat → Nat → Int) (i : Nat) (w : World) : Calls Tryd.prog 12 #[.agg (srow ksNet F i)] w fun e w' => e = .returned (.agg (srow ksNet F i)) ∧ Below w.heap.size w w' := toNet_any (F i) w
set_option maxHeartbeats 1000000 in
theorem toNetS_any (n : Nat) (hn : n ≤ 2 ^ 40) (F : Nat → Nat → Int) (b o c : Nat) (w : World) (I : InS w b o n ksNet F) : Calls Tryd.prog 19 #[.slice (some ⟨b, o, none⟩) n c] w fun e w' => ∃ b', e = .returned (.slice (some ⟨b', 0, none⟩) n n) ∧ w.heap.size ≤ b' ∧ Blk w' b' (scells ksNet n F) 34 ∧ Below w.heap.size w w' := by
  go_enter Tryd.func19, Tryd.ntmps19
  have HI := Lib.hid I
  clear I
  go_wp2_with (refine wpList_make (BY := 4) rfl 46 34 _ rfl n rfl ksNet Tryd.underlying46 (by kernel_rfl) (by kernel_rfl) (by omega) (by omega) ?_)
  obtain ⟨W, hW, M⟩ := open1 w (scells ksNet n (fun _ _ => 0)) 34
  rw [hW]; clear hW
  go_loopw [4] (fun i wr => ∃ k : Nat, k ≤ n ∧ i = .int .i64 k ∧ Mem w wr [⟨w.heap.size, scells ksNet n (fun p => if p < k then F p else fun _ => 0), 34⟩]) (fun i _ => n - (intOf i).toNat)
  case atStart => exact ⟨0, by omega, rfl, by simpa using M⟩
  case round =>
    clear M
    obtain ⟨k, hk, rfl, M⟩ := hrel
    by_cases hlt : k < n
    · have hr := HI.out.elem (by decide) M.below hlt
      go_wp2_with (first
        | (refine wpList_load_part rfl 29 _ rfl _ _ rfl (srow ksNet F k) _ hr Tryd.underlying29 rfl (by rw [srow_size]; kernel_rfl) ?_)
        | (go_at_call 12; refine (toNet_row F k _).mono ?_; rintro e W2 ⟨rfl, hb⟩; have M2 := M.call hb; clear M hb hr; have hth := Lib.hid ((M2.at 0 rfl).elemThere hlt))
        | (refine wpList_store_mid rfl 34 _ _ rfl _ _ _ rfl rfl ?s1 ?s2 ?s3 ?_))
      case s1 => rw [srow_size]; exact hth.out
      case s2 => rw [srow_size]; kernel_rfl
      case s3 => exact srow_one _ _ _
      go_roundw
      case rel =>
        refine ⟨k + 1, by omega, by go_num, ?_⟩
        have h4 := M2.cells 0 (k * ksNet.length) (srow ksNet F k).toList rfl _ ((M2.at 0 rfl).setElem hlt)
        have e : scells ksNet n (fun p => if p = k then F k else if p < k then F p else fun _ => 0) = scells ksNet n (fun p => if p < k + 1 then F p else fun _ => 0) := scells_congr (fun p j hp _ => by
          by_cases e1 : p = k
          · subst e1; simp
          · by_cases e2 : p < k
            · rw [if_neg e1, if_pos e2, if_pos (by omega)]
            · rw [if_neg e1, if_neg e2, if_neg (by omega)])
        rw [e] at h4
        exact h4
      case measure => simp [intOf]; omega
    · have e : scells ksNet n (fun p => if p < k then F p else fun _ => 0) = scells ksNet n F := scells_congr (fun p j hp _ => by rw [if_pos (by omega)])
      rw [e] at M; clear e
      go_wp2_with fail
      go_ret
      exact ⟨_, rfl, Nat.le_refl _, M.at 0 rfl, M.below⟩
end
section
open Go Go.RowKit

theorem eqNet_same (F : Nat → Nat → Int) (i : Nat) (w : World) : Calls Tryd.prog 43 #[.agg (srow ksNet F i), .agg (srow ksNet F i)] w fun e w' => e = .returned (.bool true) ∧ Below w.heap.size w w' := by
  suffices ∀ a : Nat → Int, Calls Tryd.prog 43 #[vNet a, vNet a] w fun e w' => e = .returned (.bool true) ∧ Below w.heap.size w w' from this (F i)
  intro a
  go_enter Tryd.func43, Tryd.ntmps43
  go_wp2_with fail
  go_ret
  exact ⟨rfl, ((Below.refl _ _).alloc (Nat.le_refl _) _).alloc (by simp) _⟩
set_option maxRecDepth 100000 in
set_option maxHeartbeats 800000 in
theorem eqNetS_same (n : Nat) (hn : n ≤ 2 ^ 40) (F : Nat → Nat → Int) (b d c e : Nat) (w : World) (I1 : InS w b 0 n ksNet F) (I2 : InS w d 0 n ksNet F) :
    Calls Tryd.prog 21 #[.slice (some ⟨b, 0, none⟩) n c, .slice (some ⟨d, 0, none⟩) n e] w fun e w' => e = .returned (.bool true) ∧ Below w.heap.size w w' := by
  have H1 := Lib.hid I1
  have H2 := Lib.hid I2
  clear I1 I2
  go_enter Tryd.func21, Tryd.ntmps21
  go_wp2_with fail
  go_loopw [5] (fun i wr => ∃ k : Nat, k ≤ n ∧ i = .int .i64 k ∧ Below w.heap.size w wr) (fun i _ => n - (intOf i).toNat)
  case atStart => exact ⟨0, by omega, rfl, Below.refl _ _⟩
  case round =>
    obtain ⟨k, hk, rfl, hb⟩ := hrel
    by_cases hlt : k < n
    · have g1 : Hid (∀ w', Below w.heap.size w w' → w'.rangeAt b (0 + k * 4) (srow ksNet F k).toList) := Lib.hid (fun w' hw' => InS.elem (ks := ksNet) H1.out (by decide) hw' hlt)
      have g2 : Hid (∀ w', Below w.heap.size w w' → w'.rangeAt d (0 + k * 4) (srow ksNet F k).toList) := Lib.hid (fun w' hw' => InS.elem (ks := ksNet) H2.out (by decide) hw' hlt)
      go_upto_region 6 with (fail)
      refine wp_region_rel (DL [dV (.slice (some ⟨b, 0, none⟩) n c), dV (.int .i64 k), dV (.pointer (some ⟨b, 0 + k * 4, none⟩)), dV (.agg (srow ksNet F k)), dV (.slice (some ⟨d, 0, none⟩) n e), dV (.int .i64 k), dV (.pointer (some ⟨d, 0 + k * 4, none⟩)), dV (.agg (srow ksNet F k)), dV (.bool true), dV (.bool false)]) (fun w' => Below w.heap.size w w') (by kernel_rfl) (by kernel_rfl) (fun _ _ h h' => h.trans (h'.mono h.size))
        (stays_DL (fun d hd => by
          simp only [List.mem_cons, List.mem_nil_iff, or_false] at hd
          rcases hd with rfl | rfl | rfl | rfl | rfl | rfl | rfl | rfl | rfl | rfl <;> exact stay_V)) hb.drew ?_
      refine rel_val _ rfl rfl (fun _ _ => rfl) (fun x0 => ?_)
      simp only [Act.put, List.setIfInBounds_toArray, List.set_cons_zero, List.set_cons_succ]
      refine rel_val _ rfl rfl (fun _ _ => rfl) (fun x1 => ?_)
      simp only [Act.put, List.setIfInBounds_toArray, List.set_cons_zero, List.set_cons_succ]
      refine rel_index 46 34 _ _ rfl b 0 n c 4 k rfl rfl hlt Tryd.underlying46 (by kernel_rfl) rfl rfl (fun x2 => ?_)
      simp only [Act.put, List.setIfInBounds_toArray, List.set_cons_zero, List.set_cons_succ]
      refine rel_load 34 _ rfl b (0 + k * 4) rfl (srow ksNet F k) _ rfl rfl g1.out Tryd.underlying34 rfl (by rw [srow_size]; kernel_rfl) (fun x3 => ?_)
      simp only [Act.put, List.setIfInBounds_toArray, List.set_cons_zero, List.set_cons_succ]
      refine rel_val _ rfl rfl (fun _ _ => rfl) (fun x4 => ?_)
      simp only [Act.put, List.setIfInBounds_toArray, List.set_cons_zero, List.set_cons_succ]
      refine rel_val _ rfl rfl (fun _ _ => rfl) (fun x5 => ?_)
      simp only [Act.put, List.setIfInBounds_toArray, List.set_cons_zero, List.set_cons_succ]
      refine rel_index 46 34 _ _ rfl d 0 n e 4 k rfl rfl hlt Tryd.underlying46 (by kernel_rfl) rfl rfl (fun x6 => ?_)
      simp only [Act.put, List.setIfInBounds_toArray, List.set_cons_zero, List.set_cons_succ]
      refine rel_load 34 _ rfl d (0 + k * 4) rfl (srow ksNet F k) _ rfl rfl g2.out Tryd.underlying34 rfl (by rw [srow_size]; kernel_rfl) (fun x7 => ?_)
      simp only [Act.put, List.setIfInBounds_toArray, List.set_cons_zero, List.set_cons_succ]
      refine rel_call _ 43 #[.agg (srow ksNet F k), .agg (srow ksNet F k)] rfl rfl rfl rfl (enters_of Tryd.func43 (by kernel_rfl) rfl) (fun w' _ => eqNet_same F k w') (fun x8 => ?_)
      simp only [Act.put, List.setIfInBounds_toArray, List.set_cons_zero, List.set_cons_succ]
      refine rel_val _ rfl rfl (fun _ _ => rfl) (fun x9 => ?_)
      simp only [Act.put, List.setIfInBounds_toArray, List.set_cons_zero, List.set_cons_succ]
      refine rel_nil (fun w' inv => ?_)
      have hb' := inv.cls
      clear inv
      go_wp2_with fail
      go_roundw
      case rel => exact ⟨k + 1, by omega, by go_num, hb'⟩
      case measure => simp [intOf]; omega
    · obtain rfl : k = n := by omega
      go_wp2_with fail
      go_ret
      exact ⟨rfl, hb⟩
theorem szNetS_any (n c : Nat) (hn : n ≤ 9223372036854775807) (p : Option Addr) (left : Int) (h1 : -9223372036854775808 ≤ left - n) (h0 : -9223372036854775808 ≤ left) (h2 : left ≤ 9223372036854775807) (w : World) :
    Calls Tryd.prog 17 #[.slice p n c, .int .i64 left] w fun e w' => e = .returned (.int .i64 (if left - n < 0 then -1 else left - n)) ∧ w = w' := by
  by_cases h : left - n < 0
  · rw [if_pos h]
    go_enter Tryd.func17, Tryd.ntmps17
    go_wp2_with fail
    go_ret
    exact ⟨rfl, rfl⟩
  · rw [if_neg h]
    have h' : 0 ≤ left - n := by omega
    clear h
    go_enter Tryd.func17, Tryd.ntmps17
    go_wp2_with fail
    go_ret
    exact ⟨rfl, rfl⟩
theorem toNetS_nilA (F : Nat → Nat → Int) (p : Option Addr) (c : Nat) (w : World) : Calls Tryd.prog 19 #[.slice p 0 c] w fun e w' => ∃ b', e = .returned (.slice (some ⟨b', 0, none⟩) 0 0) ∧ w.heap.size ≤ b' ∧ Blk w' b' (scells ksNet 0 F) 34 ∧ Below w.heap.size w w' := by
  go_enter Tryd.func19, Tryd.ntmps19
  go_wp2_with (refine wpList_make (BY := 4) rfl 46 34 _ rfl 0 rfl ksNet Tryd.underlying46 (by kernel_rfl) (by kernel_rfl) (by omega) (by omega) ?_)
  obtain ⟨W, hW, M⟩ := open1 w (scells ksNet 0 (fun _ _ => 0)) 34
  rw [hW]; clear hW
  refine wp_loop_rounds 1 ?_
  rw [rounds_succ]
  go_wp2_with fail
  go_ret
  exact ⟨_, rfl, Nat.le_refl _, M.at 0 rfl, M.below⟩
end
section
open Go Go.RowKit Go.WideShapes Go.ChangeShapes Go.Deep

theorem toNetS_arg (n : Nat) (hn : n ≤ 2 ^ 40) (F : Nat → Nat → Int) (p : Option Addr) (c : Nat) (w : World) (I : InA ksNet w p n F) : Calls Tryd.prog 19 #[.slice p n c] w fun e w' => ∃ b', e = .returned (.slice (some ⟨b', 0, none⟩) n n) ∧ InS w' b' 0 n ksNet F ∧ Below w.heap.size w w' := by
  rcases I with rfl | ⟨b, o, rfl, I⟩
  · refine (toNetS_nilA F p c w).mono ?_
    rintro e w' ⟨b', rfl, _, hB, hb⟩
    exact ⟨b', rfl, hB.inS, hb⟩
  · refine (toNetS_any n hn F b o c w I).mono ?_
    rintro e w' ⟨b', rfl, _, hB, hb⟩
    exact ⟨b', rfl, hB.inS, hb⟩
end
end Go.Proofs.YtkhhkacmfkipgaaDoor
