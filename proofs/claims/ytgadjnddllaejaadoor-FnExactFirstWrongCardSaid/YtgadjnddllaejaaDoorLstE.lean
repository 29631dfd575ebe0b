/-
  Lists of entrys that calls make: the laws' copies, comparison, marks.
-/
import Derived.Test.YtgadjnddllaejaaDoorLstS
import Derived.Test.YtgadjnddllaejaaDoorEntIn
namespace Go.Proofs.YtgadjnddllaejaaDoor
open Go Go.RowKit

abbrev EMarks := NMarks
theorem EMem.marked {w0 w w' : World} {L : List Ent} {lo hi : Nat} (H : Mem w0 w L) (hm : NMarks lo hi w w') (h0 : w0.heap.size ≤ lo) (hl : ∀ (i : Nat) (e : Ent), L[i]? = some e → e.b < lo ∨ hi ≤ e.b) : Mem w0 w' L := NMem.marked H hm h0 hl
theorem EBelow.marked {n0 : Nat} {w0 w w' : World} {lo hi : Nat} (H : Below n0 w0 w) (hm : NMarks lo hi w w') (h1 : n0 ≤ lo) (h2 : lo ≤ w.heap.size) : Below n0 w0 w' := NBelow.marked H hm h1 h2
/-- The laws' copy, with where it lies. -/
theorem Eto_any (n : Nat) (hn : n ≤ 2 ^ 40) (F : Nat → Nat → Int) (p : Option Addr) (c : Nat) (w : World) (J : InA ksEntry w p n F) : Calls Tryd.prog 8 #[.slice p n c] w fun e w' => ∃ b', e = .returned (.slice (some ⟨b', 0, none⟩) n n) ∧ InS w' b' 0 n ksEntry F ∧ SV ksEntry w.heap.size w'.heap.size w' (some ⟨b', 0, none⟩) n F ∧ SW ksEntry 50 w.heap.size w'.heap.size w' (some ⟨b', 0, none⟩) n ∧ Below w.heap.size w w' := by
  have key : ∀ (e : Ending) (w' : World), (∃ b', e = .returned (.slice (some ⟨b', 0, none⟩) n n) ∧ w.heap.size ≤ b' ∧ Blk w' b' (scells ksEntry n F) 50 ∧ Below w.heap.size w w') → ∃ b', e = .returned (.slice (some ⟨b', 0, none⟩) n n) ∧ InS w' b' 0 n ksEntry F ∧ SV ksEntry w.heap.size w'.heap.size w' (some ⟨b', 0, none⟩) n F ∧ SW ksEntry 50 w.heap.size w'.heap.size w' (some ⟨b', 0, none⟩) n ∧ Below w.heap.size w w' := by
    rintro e w' ⟨b', rfl, hlo, hB, hb⟩
    exact ⟨b', rfl, hB.inS, .inr ⟨b', 0, rfl, hlo, hB.lt, hB.inS⟩, .inr ⟨b', 0, _, rfl, hlo, hB.lt, by rw [scells_size]; omega, hB⟩, hb⟩
  rcases J with rfl | ⟨b, o, rfl, J⟩
  · exact (toEntryS_nilA F p c w).mono key
  · exact (toEntryS_any n hn F b o c w J).mono key
set_option maxHeartbeats 1000000 in
theorem Eeq_nil (p p2 : Option Addr) (c e : Nat) (w : World) : Calls Tryd.prog 12 #[.slice p 0 c, .slice p2 0 e] w fun e w' => e = .returned (.bool true) ∧ Below w.heap.size w w' := by
  go_enter Tryd.func12, Tryd.ntmps12
  go_wp2_with fail
  refine wp_loop_rounds 1 ?_
  rw [rounds_succ]
  go_wp2_with fail
  go_ret
  exact ⟨rfl, Below.refl _ _⟩
set_option maxRecDepth 100000 in
set_option maxHeartbeats 800000 in
theorem Eeq_some (n : Nat) (hn : n ≤ 2 ^ 40) (F : Nat → Nat → Int) (b o d o2 c e : Nat) (w : World) (I1 : InS w b o n ksEntry F) (I2 : InS w d o2 n ksEntry F) :
    Calls Tryd.prog 12 #[.slice (some ⟨b, o, none⟩) n c, .slice (some ⟨d, o2, none⟩) n e] w fun e w' => e = .returned (.bool true) ∧ Below w.heap.size w w' := by
  have H1 := Lib.hid I1
  have H2 := Lib.hid I2
  clear I1 I2
  go_enter Tryd.func12, Tryd.ntmps12
  go_wp2_with fail
  go_loopw [5] (fun i wr => ∃ k : Nat, k ≤ n ∧ i = .int .i64 k ∧ Below w.heap.size w wr) (fun i _ => n - (intOf i).toNat)
  case atStart => exact ⟨0, by omega, rfl, Below.refl _ _⟩
  case round =>
    obtain ⟨k, hk, rfl, hb⟩ := hrel
    by_cases hlt : k < n
    · have g1 : Hid (∀ w', Below w.heap.size w w' → w'.rangeAt b (o + k * 3) (srow ksEntry F k).toList) := Lib.hid (fun w' hw' => InS.elem (ks := ksEntry) H1.out (by decide) hw' hlt)
      have g2 : Hid (∀ w', Below w.heap.size w w' → w'.rangeAt d (o2 + k * 3) (srow ksEntry F k).toList) := Lib.hid (fun w' hw' => InS.elem (ks := ksEntry) H2.out (by decide) hw' hlt)
      go_upto_region 6 with (fail)
      refine wp_region_rel (DL [dV (.slice (some ⟨b, o, none⟩) n c), dV (.int .i64 k), dV (.pointer (some ⟨b, o + k * 3, none⟩)), dV (.agg (srow ksEntry F k)), dV (.slice (some ⟨d, o2, none⟩) n e), dV (.int .i64 k), dV (.pointer (some ⟨d, o2 + k * 3, none⟩)), dV (.agg (srow ksEntry F k)), dV (.bool true), dV (.bool false)]) (fun w' => Below w.heap.size w w') (by kernel_rfl) (by kernel_rfl) (fun _ _ h h' => h.trans (h'.mono h.size))
        (stays_DL (fun d hd => by
          simp only [List.mem_cons, List.mem_nil_iff, or_false] at hd
          rcases hd with rfl | rfl | rfl | rfl | rfl | rfl | rfl | rfl | rfl | rfl <;> exact stay_V)) hb.drew ?_
      refine rel_val _ rfl rfl (fun _ _ => rfl) (fun x0 => ?_)
      simp only [Act.put, List.setIfInBounds_toArray, List.set_cons_zero, List.set_cons_succ]
      refine rel_val _ rfl rfl (fun _ _ => rfl) (fun x1 => ?_)
      simp only [Act.put, List.setIfInBounds_toArray, List.set_cons_zero, List.set_cons_succ]
      refine rel_index 35 50 _ _ rfl b o n c 3 k rfl rfl hlt Tryd.underlying35 (by kernel_rfl) rfl rfl (fun x2 => ?_)
      simp only [Act.put, List.setIfInBounds_toArray, List.set_cons_zero, List.set_cons_succ]
      refine rel_load 50 _ rfl b (o + k * 3) rfl (srow ksEntry F k) _ rfl rfl g1.out Tryd.underlying50 rfl (by rw [srow_size]; kernel_rfl) (fun x3 => ?_)
      simp only [Act.put, List.setIfInBounds_toArray, List.set_cons_zero, List.set_cons_succ]
      refine rel_val _ rfl rfl (fun _ _ => rfl) (fun x4 => ?_)
      simp only [Act.put, List.setIfInBounds_toArray, List.set_cons_zero, List.set_cons_succ]
      refine rel_val _ rfl rfl (fun _ _ => rfl) (fun x5 => ?_)
      simp only [Act.put, List.setIfInBounds_toArray, List.set_cons_zero, List.set_cons_succ]
      refine rel_index 35 50 _ _ rfl d o2 n e 3 k rfl rfl hlt Tryd.underlying35 (by kernel_rfl) rfl rfl (fun x6 => ?_)
      simp only [Act.put, List.setIfInBounds_toArray, List.set_cons_zero, List.set_cons_succ]
      refine rel_load 50 _ rfl d (o2 + k * 3) rfl (srow ksEntry F k) _ rfl rfl g2.out Tryd.underlying50 rfl (by rw [srow_size]; kernel_rfl) (fun x7 => ?_)
      simp only [Act.put, List.setIfInBounds_toArray, List.set_cons_zero, List.set_cons_succ]
      refine rel_call _ 24 #[.agg (srow ksEntry F k), .agg (srow ksEntry F k)] rfl rfl rfl rfl (enters_of Tryd.func24 (by kernel_rfl) rfl) (fun w' _ => eqEntry_same F k w') (fun x8 => ?_)
      simp only [Act.put, List.setIfInBounds_toArray, List.set_cons_zero, List.set_cons_succ]
      refine rel_val _ rfl rfl (fun _ _ => rfl) (fun x9 => ?_)
      simp only [Act.put, List.setIfInBounds_toArray, List.set_cons_zero, List.set_cons_succ]
      refine rel_nil (fun w' inv => ?_)
      have hb' := inv.cls
      clear inv
      go_wp2_with fail
      go_roundw
      case rel => exact ⟨k + 1, by omega, by go_num, hb'⟩
      case measure => simp [intOf]; omega
    · obtain rfl : k = n := by omega
      go_wp2_with fail
      go_ret
      exact ⟨rfl, hb⟩
theorem Eeq_J (n : Nat) (hn : n ≤ 2 ^ 40) (F : Nat → Nat → Int) (p p2 : Option Addr) (c e : Nat) (w : World) (J1 : InA ksEntry w p n F) (J2 : InA ksEntry w p2 n F) :
    Calls Tryd.prog 12 #[.slice p n c, .slice p2 n e] w fun e w' => e = .returned (.bool true) ∧ Below w.heap.size w w' := by
  rcases J1 with rfl | ⟨b, o, rfl, I1⟩
  · exact Eeq_nil p p2 c e w
  · rcases J2 with rfl | ⟨d, o2, rfl, I2⟩
    · exact Eeq_nil _ p2 c e w
    · exact Eeq_some n hn F b o d o2 c e w I1 I2
/-- What a mark writes. -/
def mkEntry (m : Nat) (i j : Nat) : Int := (ksEntry.getD j .i64).wrap ((m : Int) + 3 * (i : Int) + (j : Int))
end Go.Proofs.YtgadjnddllaejaaDoor
