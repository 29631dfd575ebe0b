/-
  Lists of flocks that calls make: the laws' copies, comparison, marks.
-/
import Derived.Test.YtaioflkonpommaaDoorLstS
import Derived.Test.YtaioflkonpommaaDoorFlkIn
namespace Go.Proofs.YtaioflkonpommaaDoor
open Go Go.RowKit

abbrev FMarks := NMarks
theorem FMem.marked {w0 w w' : World} {L : List Ent} {lo hi : Nat} (H : Mem w0 w L) (hm : NMarks lo hi w w') (h0 : w0.heap.size ≤ lo) (hl : ∀ (i : Nat) (e : Ent), L[i]? = some e → e.b < lo ∨ hi ≤ e.b) : Mem w0 w' L := NMem.marked H hm h0 hl
theorem FBelow.marked {n0 : Nat} {w0 w w' : World} {lo hi : Nat} (H : Below n0 w0 w) (hm : NMarks lo hi w w') (h1 : n0 ≤ lo) (h2 : lo ≤ w.heap.size) : Below n0 w0 w' := NBelow.marked H hm h1 h2
/-- The laws' copy, with where it lies. -/
theorem Fto_any (n : Nat) (hn : n ≤ 2 ^ 40) (F : Nat → Nat → Int) (p : Option Addr) (c : Nat) (w : World) (J : InA ksFlock w p n F) : Calls Tryd.prog 23 #[.slice p n c] w fun e w' => ∃ b', e = .returned (.slice (some ⟨b', 0, none⟩) n n) ∧ InS w' b' 0 n ksFlock F ∧ SV ksFlock w.heap.size w'.heap.size w' (some ⟨b', 0, none⟩) n F ∧ SW ksFlock 38 w.heap.size w'.heap.size w' (some ⟨b', 0, none⟩) n ∧ Below w.heap.size w w' := by
  have key : ∀ (e : Ending) (w' : World), (∃ b', e = .returned (.slice (some ⟨b', 0, none⟩) n n) ∧ w.heap.size ≤ b' ∧ Blk w' b' (scells ksFlock n F) 38 ∧ Below w.heap.size w w') → ∃ b', e = .returned (.slice (some ⟨b', 0, none⟩) n n) ∧ InS w' b' 0 n ksFlock F ∧ SV ksFlock w.heap.size w'.heap.size w' (some ⟨b', 0, none⟩) n F ∧ SW ksFlock 38 w.heap.size w'.heap.size w' (some ⟨b', 0, none⟩) n ∧ Below w.heap.size w w' := by
    rintro e w' ⟨b', rfl, hlo, hB, hb⟩
    exact ⟨b', rfl, hB.inS, .inr ⟨b', 0, rfl, hlo, hB.lt, hB.inS⟩, .inr ⟨b', 0, _, rfl, hlo, hB.lt, by rw [scells_size]; omega, hB⟩, hb⟩
  rcases J with rfl | ⟨b, o, rfl, J⟩
  · exact (toFlockS_nilA F p c w).mono key
  · exact (toFlockS_any n hn F b o c w J).mono key
set_option maxHeartbeats 1000000 in
theorem Feq_nil (p p2 : Option Addr) (c e : Nat) (w : World) : Calls Tryd.prog 25 #[.slice p 0 c, .slice p2 0 e] w fun e w' => e = .returned (.bool true) ∧ Below w.heap.size w w' := by
  go_enter Tryd.func25, Tryd.ntmps25
  go_wp2_with fail
  refine wp_loop_rounds 1 ?_
  rw [rounds_succ]
  go_wp2_with fail
  go_ret
  exact ⟨rfl, Below.refl _ _⟩
set_option maxRecDepth 100000 in
set_option maxHeartbeats 800000 in
theorem Feq_some (n : Nat) (hn : n ≤ 2 ^ 40) (F : Nat → Nat → Int) (b o d o2 c e : Nat) (w : World) (I1 : InS w b o n ksFlock F) (I2 : InS w d o2 n ksFlock F) :
    Calls Tryd.prog 25 #[.slice (some ⟨b, o, none⟩) n c, .slice (some ⟨d, o2, none⟩) n e] w fun e w' => e = .returned (.bool true) ∧ Below w.heap.size w w' := by
  have H1 := Lib.hid I1
  have H2 := Lib.hid I2
  clear I1 I2
  go_enter Tryd.func25, Tryd.ntmps25
  go_wp2_with fail
  go_loopw [5] (fun i wr => ∃ k : Nat, k ≤ n ∧ i = .int .i64 k ∧ Below w.heap.size w wr) (fun i _ => n - (intOf i).toNat)
  case atStart => exact ⟨0, by omega, rfl, Below.refl _ _⟩
  case round =>
    obtain ⟨k, hk, rfl, hb⟩ := hrel
    by_cases hlt : k < n
    · have g1 : Hid (∀ w', Below w.heap.size w w' → w'.rangeAt b (o + k * 6) (srow ksFlock F k).toList) := Lib.hid (fun w' hw' => InS.elem (ks := ksFlock) H1.out (by decide) hw' hlt)
      have g2 : Hid (∀ w', Below w.heap.size w w' → w'.rangeAt d (o2 + k * 6) (srow ksFlock F k).toList) := Lib.hid (fun w' hw' => InS.elem (ks := ksFlock) H2.out (by decide) hw' hlt)
      go_upto_region 6 with (fail)
      refine wp_region_rel (DL [dV (.slice (some ⟨b, o, none⟩) n c), dV (.int .i64 k), dV (.pointer (some ⟨b, o + k * 6, none⟩)), dV (.agg (srow ksFlock F k)), dV (.slice (some ⟨d, o2, none⟩) n e), dV (.int .i64 k), dV (.pointer (some ⟨d, o2 + k * 6, none⟩)), dV (.agg (srow ksFlock F k)), dV (.bool true), dV (.bool false)]) (fun w' => Below w.heap.size w w') (by kernel_rfl) (by kernel_rfl) (fun _ _ h h' => h.trans (h'.mono h.size))
        (stays_DL (fun d hd => by
          simp only [List.mem_cons, List.mem_nil_iff, or_false] at hd
          rcases hd with rfl | rfl | rfl | rfl | rfl | rfl | rfl | rfl | rfl | rfl <;> exact stay_V)) hb.drew ?_
      refine rel_val _ rfl rfl (fun _ _ => rfl) (fun x0 => ?_)
      simp only [Act.put, List.setIfInBounds_toArray, List.set_cons_zero, List.set_cons_succ]
      refine rel_val _ rfl rfl (fun _ _ => rfl) (fun x1 => ?_)
      simp only [Act.put, List.setIfInBounds_toArray, List.set_cons_zero, List.set_cons_succ]
      refine rel_index 51 38 _ _ rfl b o n c 6 k rfl rfl hlt Tryd.underlying51 (by kernel_rfl) rfl rfl (fun x2 => ?_)
      simp only [Act.put, List.setIfInBounds_toArray, List.set_cons_zero, List.set_cons_succ]
      refine rel_load 38 _ rfl b (o + k * 6) rfl (srow ksFlock F k) _ rfl rfl g1.out Tryd.underlying38 rfl (by rw [srow_size]; kernel_rfl) (fun x3 => ?_)
      simp only [Act.put, List.setIfInBounds_toArray, List.set_cons_zero, List.set_cons_succ]
      refine rel_val _ rfl rfl (fun _ _ => rfl) (fun x4 => ?_)
      simp only [Act.put, List.setIfInBounds_toArray, List.set_cons_zero, List.set_cons_succ]
      refine rel_val _ rfl rfl (fun _ _ => rfl) (fun x5 => ?_)
      simp only [Act.put, List.setIfInBounds_toArray, List.set_cons_zero, List.set_cons_succ]
      refine rel_index 51 38 _ _ rfl d o2 n e 6 k rfl rfl hlt Tryd.underlying51 (by kernel_rfl) rfl rfl (fun x6 => ?_)
      simp only [Act.put, List.setIfInBounds_toArray, List.set_cons_zero, List.set_cons_succ]
      refine rel_load 38 _ rfl d (o2 + k * 6) rfl (srow ksFlock F k) _ rfl rfl g2.out Tryd.underlying38 rfl (by rw [srow_size]; kernel_rfl) (fun x7 => ?_)
      simp only [Act.put, List.setIfInBounds_toArray, List.set_cons_zero, List.set_cons_succ]
      refine rel_call _ 56 #[.agg (srow ksFlock F k), .agg (srow ksFlock F k)] rfl rfl rfl rfl (enters_of Tryd.func56 (by kernel_rfl) rfl) (fun w' _ => eqFlock_same F k w') (fun x8 => ?_)
      simp only [Act.put, List.setIfInBounds_toArray, List.set_cons_zero, List.set_cons_succ]
      refine rel_val _ rfl rfl (fun _ _ => rfl) (fun x9 => ?_)
      simp only [Act.put, List.setIfInBounds_toArray, List.set_cons_zero, List.set_cons_succ]
      refine rel_nil (fun w' inv => ?_)
      have hb' := inv.cls
      clear inv
      go_wp2_with fail
      go_roundw
      case rel => exact ⟨k + 1, by omega, by go_num, hb'⟩
      case measure => simp [intOf]; omega
    · obtain rfl : k = n := by omega
      go_wp2_with fail
      go_ret
      exact ⟨rfl, hb⟩
theorem Feq_J (n : Nat) (hn : n ≤ 2 ^ 40) (F : Nat → Nat → Int) (p p2 : Option Addr) (c e : Nat) (w : World) (J1 : InA ksFlock w p n F) (J2 : InA ksFlock w p2 n F) :
    Calls Tryd.prog 25 #[.slice p n c, .slice p2 n e] w fun e w' => e = .returned (.bool true) ∧ Below w.heap.size w w' := by
  rcases J1 with rfl | ⟨b, o, rfl, I1⟩
  · exact Feq_nil p p2 c e w
  · rcases J2 with rfl | ⟨d, o2, rfl, I2⟩
    · exact Feq_nil _ p2 c e w
    · exact Feq_some n hn F b o d o2 c e w I1 I2
/-- What a mark writes. -/
def mkFlock (m : Nat) (i j : Nat) : Int := (ksFlock.getD j .i64).wrap ((m : Int) + 6 * (i : Int) + (j : Int))
theorem Fmark_nil (p : Option Addr) (c : Nat) (m : Int) (w : World) : Calls Tryd.prog 26 #[.slice p 0 c, .int .i64 m] w fun e w' => e = .returned (.int .i64 m) ∧ w = w' := by
  go_enter Tryd.func26, Tryd.ntmps26
  go_wp2_with fail
  refine wp_loop_rounds 1 ?_
  rw [rounds_succ]
  go_wp2_with fail
  go_ret
  exact ⟨rfl, rfl⟩
set_option maxHeartbeats 4000000 in
theorem Fmark_some (n : Nat) (hn : n ≤ 2 ^ 40) (m : Nat) (hm : m ≤ 2 ^ 41) (b o c : Nat) (cs : Array Value) (hcs : o + n * 6 ≤ cs.size) (w : World) (B : Blk w b cs 38) :
    Calls Tryd.prog 26 #[.slice (some ⟨b, o, none⟩) n c, .int .i64 m] w fun e w' => e = .returned (.int .i64 ((m : Int) + 6 * (n : Int))) ∧ w.grownBy w' (some b) ∧ w'.heap.size = w.heap.size ∧ InS w' b o n ksFlock (mkFlock m) ∧ ∃ cs' : Array Value, cs'.size = cs.size ∧ Blk w' b cs' 38 := by
  go_enter Tryd.func26, Tryd.ntmps26
  go_wp2_with fail
  go_loopw [1, 5] (fun v i wr => ∃ k : Nat, k ≤ n ∧ i = .int .i64 k ∧ v = .int .i64 ((m : Int) + 6 * (k : Int)) ∧ Hid (w.grownBy wr (some b)) ∧ Hid (wr.heap.size = w.heap.size) ∧ Hid (∃ cs' : Array Value, cs'.size = cs.size ∧ Blk wr b cs' 38 ∧ ∀ i, i < k → ∀ j, j < 6 → cs'[o + i * 6 + j]? = some (sget ksFlock (mkFlock m) i j))) (fun _ i _ => n - (intOf i).toNat)
  case atStart => exact ⟨0, by omega, rfl, by simp, Lib.hid ⟨rfl, rfl, rfl, Nat.le_refl _, fun _ _ _ => rfl⟩, Lib.hid rfl, Lib.hid ⟨cs, rfl, B, fun i hi => by omega⟩⟩
  case round =>
    obtain ⟨k, hk, rfl, rfl, hgr, hsz, hB⟩ := hrel
    by_cases hlt : k < n
    · obtain ⟨cs', hc', B', hI⟩ := hB.out
      have HI := Lib.hid hI
      clear hB hI
      have c0 := B'.cell (i := o + k * 6) (Array.getElem?_eq_getElem (show o + k * 6 < cs'.size by omega))
      have e0 := B'.free (o + k * 6)
      go_upto_region 5 with (fail)
      clear c0 e0
      have B1 := B'.set (o + k * 6) (.int .i16 (IntKind.i16.wrap ((m : Int) + 6 * (k : Int))))
      have hs1 : Hid ((cs'.setIfInBounds (o + k * 6) (.int .i16 (IntKind.i16.wrap ((m : Int) + 6 * (k : Int))))).size = cs'.size) := Lib.hid (by simp)
      have g1 := Lib.hid (Ngrown_cell wr b (o + k * 6) (.int .i16 (IntKind.i16.wrap ((m : Int) + 6 * (k : Int)))))
      have z1 : Hid ((wr.setCell ⟨b, o + k * 6, none⟩ (.int .i16 (IntKind.i16.wrap ((m : Int) + 6 * (k : Int))))).heap.size = wr.heap.size) := Lib.hid (by simp)
      obtain ⟨d1, hd1⟩ : ∃ x, cs'.setIfInBounds (o + k * 6) (.int .i16 (IntKind.i16.wrap ((m : Int) + 6 * (k : Int)))) = x := ⟨_, rfl⟩
      have hD1 := Lib.hid hd1
      rw [hd1] at B1 hs1
      clear hd1
      generalize wr.setCell _ _ = V1 at B1 g1 z1 ⊢
      have c0 := B1.cell (i := o + k * 6 + 1) (Array.getElem?_eq_getElem (show o + k * 6 + 1 < d1.size by have := hs1.out; omega))
      have e0 := B1.free (o + k * 6 + 1)
      go_upto_region 7 with (fail)
      clear c0 e0
      have B2 := B1.set (o + k * 6 + 1) (.int .i16 (IntKind.i16.wrap ((m : Int) + 6 * (k : Int) + 1)))
      have hs2 : Hid ((d1.setIfInBounds (o + k * 6 + 1) (.int .i16 (IntKind.i16.wrap ((m : Int) + 6 * (k : Int) + 1)))).size = cs'.size) := Lib.hid (by simp; exact hs1.out)
      have g2 := Lib.hid (Ngrown_cell V1 b (o + k * 6 + 1) (.int .i16 (IntKind.i16.wrap ((m : Int) + 6 * (k : Int) + 1))))
      have z2 : Hid ((V1.setCell ⟨b, o + k * 6 + 1, none⟩ (.int .i16 (IntKind.i16.wrap ((m : Int) + 6 * (k : Int) + 1)))).heap.size = V1.heap.size) := Lib.hid (by simp)
      obtain ⟨d2, hd2⟩ : ∃ x, d1.setIfInBounds (o + k * 6 + 1) (.int .i16 (IntKind.i16.wrap ((m : Int) + 6 * (k : Int) + 1))) = x := ⟨_, rfl⟩
      have hD2 := Lib.hid hd2
      rw [hd2] at B2 hs2
      clear hd2
      generalize V1.setCell _ _ = V2 at B2 g2 z2 ⊢
      have c0 := B2.cell (i := o + k * 6 + 2) (Array.getElem?_eq_getElem (show o + k * 6 + 2 < d2.size by have := hs2.out; omega))
      have e0 := B2.free (o + k * 6 + 2)
      go_upto_region 9 with (fail)
      clear c0 e0
      have B3 := B2.set (o + k * 6 + 2) (.int .i16 (IntKind.i16.wrap ((m : Int) + 6 * (k : Int) + 1 + 1)))
      have hs3 : Hid ((d2.setIfInBounds (o + k * 6 + 2) (.int .i16 (IntKind.i16.wrap ((m : Int) + 6 * (k : Int) + 1 + 1)))).size = cs'.size) := Lib.hid (by simp; exact hs2.out)
      have g3 := Lib.hid (Ngrown_cell V2 b (o + k * 6 + 2) (.int .i16 (IntKind.i16.wrap ((m : Int) + 6 * (k : Int) + 1 + 1))))
      have z3 : Hid ((V2.setCell ⟨b, o + k * 6 + 2, none⟩ (.int .i16 (IntKind.i16.wrap ((m : Int) + 6 * (k : Int) + 1 + 1)))).heap.size = V2.heap.size) := Lib.hid (by simp)
      obtain ⟨d3, hd3⟩ : ∃ x, d2.setIfInBounds (o + k * 6 + 2) (.int .i16 (IntKind.i16.wrap ((m : Int) + 6 * (k : Int) + 1 + 1))) = x := ⟨_, rfl⟩
      have hD3 := Lib.hid hd3
      rw [hd3] at B3 hs3
      clear hd3
      generalize V2.setCell _ _ = V3 at B3 g3 z3 ⊢
      have c0 := B3.cell (i := o + k * 6 + 3) (Array.getElem?_eq_getElem (show o + k * 6 + 3 < d3.size by have := hs3.out; omega))
      have e0 := B3.free (o + k * 6 + 3)
      go_upto_region 11 with (fail)
      clear c0 e0
      have B4 := B3.set (o + k * 6 + 3) (.int .i16 (IntKind.i16.wrap ((m : Int) + 6 * (k : Int) + 1 + 1 + 1)))
      have hs4 : Hid ((d3.setIfInBounds (o + k * 6 + 3) (.int .i16 (IntKind.i16.wrap ((m : Int) + 6 * (k : Int) + 1 + 1 + 1)))).size = cs'.size) := Lib.hid (by simp; exact hs3.out)
      have g4 := Lib.hid (Ngrown_cell V3 b (o + k * 6 + 3) (.int .i16 (IntKind.i16.wrap ((m : Int) + 6 * (k : Int) + 1 + 1 + 1))))
      have z4 : Hid ((V3.setCell ⟨b, o + k * 6 + 3, none⟩ (.int .i16 (IntKind.i16.wrap ((m : Int) + 6 * (k : Int) + 1 + 1 + 1)))).heap.size = V3.heap.size) := Lib.hid (by simp)
      obtain ⟨d4, hd4⟩ : ∃ x, d3.setIfInBounds (o + k * 6 + 3) (.int .i16 (IntKind.i16.wrap ((m : Int) + 6 * (k : Int) + 1 + 1 + 1))) = x := ⟨_, rfl⟩
      have hD4 := Lib.hid hd4
      rw [hd4] at B4 hs4
      clear hd4
      generalize V3.setCell _ _ = V4 at B4 g4 z4 ⊢
      have c0 := B4.cell (i := o + k * 6 + 4) (Array.getElem?_eq_getElem (show o + k * 6 + 4 < d4.size by have := hs4.out; omega))
      have e0 := B4.free (o + k * 6 + 4)
      go_upto_region 13 with (fail)
      clear c0 e0
      have B5 := B4.set (o + k * 6 + 4) (.int .i16 (IntKind.i16.wrap ((m : Int) + 6 * (k : Int) + 1 + 1 + 1 + 1)))
      have hs5 : Hid ((d4.setIfInBounds (o + k * 6 + 4) (.int .i16 (IntKind.i16.wrap ((m : Int) + 6 * (k : Int) + 1 + 1 + 1 + 1)))).size = cs'.size) := Lib.hid (by simp; exact hs4.out)
      have g5 := Lib.hid (Ngrown_cell V4 b (o + k * 6 + 4) (.int .i16 (IntKind.i16.wrap ((m : Int) + 6 * (k : Int) + 1 + 1 + 1 + 1))))
      have z5 : Hid ((V4.setCell ⟨b, o + k * 6 + 4, none⟩ (.int .i16 (IntKind.i16.wrap ((m : Int) + 6 * (k : Int) + 1 + 1 + 1 + 1)))).heap.size = V4.heap.size) := Lib.hid (by simp)
      obtain ⟨d5, hd5⟩ : ∃ x, d4.setIfInBounds (o + k * 6 + 4) (.int .i16 (IntKind.i16.wrap ((m : Int) + 6 * (k : Int) + 1 + 1 + 1 + 1))) = x := ⟨_, rfl⟩
      have hD5 := Lib.hid hd5
      rw [hd5] at B5 hs5
      clear hd5
      generalize V4.setCell _ _ = V5 at B5 g5 z5 ⊢
      have c0 := B5.cell (i := o + k * 6 + 5) (Array.getElem?_eq_getElem (show o + k * 6 + 5 < d5.size by have := hs5.out; omega))
      have e0 := B5.free (o + k * 6 + 5)
      go_wp2_with fail
      clear c0 e0
      go_roundw
      case rel =>
        refine ⟨k + 1, by omega, by go_num, by go_num, Lib.hid (Ngrown_trans hgr.out (Ngrown_trans g1.out (Ngrown_trans g2.out (Ngrown_trans g3.out (Ngrown_trans g4.out (Ngrown_trans g5.out (Ngrown_cell _ _ _ _))))))), Lib.hid (by rw [← hsz.out]; simp; rw [z5.out, z4.out, z3.out, z2.out, z1.out]), Lib.hid ⟨_, by simp; rw [← hc']; exact hs5.out, B5.set (o + k * 6 + 5) _, fun i hi q hq => ?_⟩⟩
        have hcs' : o + n * 6 ≤ cs'.size := by omega
        rw [← hD5.out, ← hD4.out, ← hD3.out, ← hD2.out, ← hD1.out]
        simp only [Array.getElem?_setIfInBounds, Array.size_setIfInBounds]
        by_cases e : i = k
        · subst e
          have hq4 : q = 0 ∨ q = 1 ∨ q = 2 ∨ q = 3 ∨ q = 4 ∨ q = 5 := by omega
          rcases hq4 with rfl | rfl | rfl | rfl | rfl | rfl
          · rw [if_neg (by omega)]; rw [if_neg (by omega)]; rw [if_neg (by omega)]; rw [if_neg (by omega)]; rw [if_neg (by omega)]; rw [if_pos (by omega), if_pos (by omega)]; exact congrArg (fun x => some (Value.int .i16 (IntKind.i16.wrap x))) (show _ = (m : Int) + 6 * (i : Int) + ((0 : Nat) : Int) by omega)
          · rw [if_neg (by omega)]; rw [if_neg (by omega)]; rw [if_neg (by omega)]; rw [if_neg (by omega)]; rw [if_pos (by omega), if_pos (by omega)]; exact congrArg (fun x => some (Value.int .i16 (IntKind.i16.wrap x))) (show _ = (m : Int) + 6 * (i : Int) + ((1 : Nat) : Int) by omega)
          · rw [if_neg (by omega)]; rw [if_neg (by omega)]; rw [if_neg (by omega)]; rw [if_pos (by omega), if_pos (by omega)]; exact congrArg (fun x => some (Value.int .i16 (IntKind.i16.wrap x))) (show _ = (m : Int) + 6 * (i : Int) + ((2 : Nat) : Int) by omega)
          · rw [if_neg (by omega)]; rw [if_neg (by omega)]; rw [if_pos (by omega), if_pos (by omega)]; exact congrArg (fun x => some (Value.int .i16 (IntKind.i16.wrap x))) (show _ = (m : Int) + 6 * (i : Int) + ((3 : Nat) : Int) by omega)
          · rw [if_neg (by omega)]; rw [if_pos (by omega), if_pos (by omega)]; exact congrArg (fun x => some (Value.int .i16 (IntKind.i16.wrap x))) (show _ = (m : Int) + 6 * (i : Int) + ((4 : Nat) : Int) by omega)
          · rw [if_pos (by omega), if_pos (by omega)]; exact congrArg (fun x => some (Value.int .i8 (IntKind.i8.wrap x))) (show _ = (m : Int) + 6 * (i : Int) + ((5 : Nat) : Int) by omega)
        · rw [if_neg (by omega)]; rw [if_neg (by omega)]; rw [if_neg (by omega)]; rw [if_neg (by omega)]; rw [if_neg (by omega)]; rw [if_neg (by omega)]; exact HI.out i (by omega) q hq
      case measure => simp [intOf]; omega
    · obtain rfl : k = n := by omega
      go_wp2_with fail
      go_ret
      obtain ⟨cs', hc', B', hI⟩ := hB.out
      refine ⟨rfl, hgr.out, hsz.out, fun i hi j v hj => ?_, cs', hc', B'⟩
      have hjs : j < 6 := by
        have := (List.getElem?_eq_some_iff.1 hj).1
        simpa [srow_size] using this
      rw [Array.getElem?_toList, srow_get _ _ _ _ hjs] at hj
      rw [← Option.some.inj hj]
      exact B'.cell (hI i hi j hjs)
theorem Fmark_any {lo hi : Nat} (n : Nat) (hn : n ≤ 2 ^ 40) (m : Nat) (hm : m ≤ 2 ^ 41) (p : Option Addr) (c : Nat) (w : World) (H : SW ksFlock 38 lo hi w p n) :
    Calls Tryd.prog 26 #[.slice p n c, .int .i64 m] w fun e w' => e = .returned (.int .i64 ((m + 6 * n : Nat) : Int)) ∧ NMarks lo hi w w' ∧ SV ksFlock lo hi w' p n (mkFlock m) := by
  rcases H with rfl | ⟨b, o, cs, rfl, h1, h2, h3, B⟩
  · refine (Fmark_nil p c m w).mono ?_
    rintro e w' ⟨rfl, rfl⟩
    exact ⟨by simp, .inl rfl, .inl rfl⟩
  · refine (Fmark_some n hn m hm b o c cs h3 w B).mono ?_
    rintro e w' ⟨rfl, hg, hs, hI, cs', _, B'⟩
    exact ⟨by rw [Int.natCast_add, Int.natCast_mul]; rfl, .inr ⟨b, h1, h2, hg, hs⟩, .inr ⟨b, o, rfl, h1, h2, hI⟩⟩
end Go.Proofs.YtaioflkonpommaaDoor
