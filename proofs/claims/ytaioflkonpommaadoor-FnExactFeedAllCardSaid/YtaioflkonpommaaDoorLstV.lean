/-
  Lists of visits that calls make: the laws' copies, comparison, marks.
-/
import Derived.Test.YtaioflkonpommaaDoorLstM
import Derived.Test.YtaioflkonpommaaDoorVisIn
namespace Go.Proofs.YtaioflkonpommaaDoor
open Go Go.RowKit

abbrev VMarks := NMarks
theorem VMem.marked {w0 w w' : World} {L : List Ent} {lo hi : Nat} (H : Mem w0 w L) (hm : NMarks lo hi w w') (h0 : w0.heap.size ≤ lo) (hl : ∀ (i : Nat) (e : Ent), L[i]? = some e → e.b < lo ∨ hi ≤ e.b) : Mem w0 w' L := NMem.marked H hm h0 hl
theorem VBelow.marked {n0 : Nat} {w0 w w' : World} {lo hi : Nat} (H : Below n0 w0 w) (hm : NMarks lo hi w w') (h1 : n0 ≤ lo) (h2 : lo ≤ w.heap.size) : Below n0 w0 w' := NBelow.marked H hm h1 h2
/-- The laws' copy, with where it lies. -/
theorem Vto_any (n : Nat) (hn : n ≤ 2 ^ 40) (F : Nat → Nat → Int) (p : Option Addr) (c : Nat) (w : World) (J : InA ksVisit w p n F) : Calls Tryd.prog 34 #[.slice p n c] w fun e w' => ∃ b', e = .returned (.slice (some ⟨b', 0, none⟩) n n) ∧ InS w' b' 0 n ksVisit F ∧ SV ksVisit w.heap.size w'.heap.size w' (some ⟨b', 0, none⟩) n F ∧ SW ksVisit 32 w.heap.size w'.heap.size w' (some ⟨b', 0, none⟩) n ∧ Below w.heap.size w w' := by
  have key : ∀ (e : Ending) (w' : World), (∃ b', e = .returned (.slice (some ⟨b', 0, none⟩) n n) ∧ w.heap.size ≤ b' ∧ Blk w' b' (scells ksVisit n F) 32 ∧ Below w.heap.size w w') → ∃ b', e = .returned (.slice (some ⟨b', 0, none⟩) n n) ∧ InS w' b' 0 n ksVisit F ∧ SV ksVisit w.heap.size w'.heap.size w' (some ⟨b', 0, none⟩) n F ∧ SW ksVisit 32 w.heap.size w'.heap.size w' (some ⟨b', 0, none⟩) n ∧ Below w.heap.size w w' := by
    rintro e w' ⟨b', rfl, hlo, hB, hb⟩
    exact ⟨b', rfl, hB.inS, .inr ⟨b', 0, rfl, hlo, hB.lt, hB.inS⟩, .inr ⟨b', 0, _, rfl, hlo, hB.lt, by rw [scells_size]; omega, hB⟩, hb⟩
  rcases J with rfl | ⟨b, o, rfl, J⟩
  · exact (toVisitS_nilA F p c w).mono key
  · exact (toVisitS_any n hn F b o c w J).mono key
set_option maxHeartbeats 1000000 in
theorem Veq_nil (p p2 : Option Addr) (c e : Nat) (w : World) : Calls Tryd.prog 18 #[.slice p 0 c, .slice p2 0 e] w fun e w' => e = .returned (.bool true) ∧ Below w.heap.size w w' := by
  go_enter Tryd.func18, Tryd.ntmps18
  go_wp2_with fail
  refine wp_loop_rounds 1 ?_
  rw [rounds_succ]
  go_wp2_with fail
  go_ret
  exact ⟨rfl, Below.refl _ _⟩
set_option maxRecDepth 100000 in
set_option maxHeartbeats 800000 in
theorem Veq_some (n : Nat) (hn : n ≤ 2 ^ 40) (F : Nat → Nat → Int) (b o d o2 c e : Nat) (w : World) (I1 : InS w b o n ksVisit F) (I2 : InS w d o2 n ksVisit F) :
    Calls Tryd.prog 18 #[.slice (some ⟨b, o, none⟩) n c, .slice (some ⟨d, o2, none⟩) n e] w fun e w' => e = .returned (.bool true) ∧ Below w.heap.size w w' := by
  have H1 := Lib.hid I1
  have H2 := Lib.hid I2
  clear I1 I2
  go_enter Tryd.func18, Tryd.ntmps18
  go_wp2_with fail
  go_loopw [5] (fun i wr => ∃ k : Nat, k ≤ n ∧ i = .int .i64 k ∧ Below w.heap.size w wr) (fun i _ => n - (intOf i).toNat)
  case atStart => exact ⟨0, by omega, rfl, Below.refl _ _⟩
  case round =>
    obtain ⟨k, hk, rfl, hb⟩ := hrel
    by_cases hlt : k < n
    · have g1 : Hid (∀ w', Below w.heap.size w w' → w'.rangeAt b (o + k * 3) (srow ksVisit F k).toList) := Lib.hid (fun w' hw' => InS.elem (ks := ksVisit) H1.out (by decide) hw' hlt)
      have g2 : Hid (∀ w', Below w.heap.size w w' → w'.rangeAt d (o2 + k * 3) (srow ksVisit F k).toList) := Lib.hid (fun w' hw' => InS.elem (ks := ksVisit) H2.out (by decide) hw' hlt)
      go_upto_region 6 with (fail)
      refine wp_region_rel (DL [dV (.slice (some ⟨b, o, none⟩) n c), dV (.int .i64 k), dV (.pointer (some ⟨b, o + k * 3, none⟩)), dV (.agg (srow ksVisit F k)), dV (.slice (some ⟨d, o2, none⟩) n e), dV (.int .i64 k), dV (.pointer (some ⟨d, o2 + k * 3, none⟩)), dV (.agg (srow ksVisit F k)), dV (.bool true), dV (.bool false)]) (fun w' => Below w.heap.size w w') (by kernel_rfl) (by kernel_rfl) (fun _ _ h h' => h.trans (h'.mono h.size))
        (stays_DL (fun d hd => by
          simp only [List.mem_cons, List.mem_nil_iff, or_false] at hd
          rcases hd with rfl | rfl | rfl | rfl | rfl | rfl | rfl | rfl | rfl | rfl <;> exact stay_V)) hb.drew ?_
      refine rel_val _ rfl rfl (fun _ _ => rfl) (fun x0 => ?_)
      simp only [Act.put, List.setIfInBounds_toArray, List.set_cons_zero, List.set_cons_succ]
      refine rel_val _ rfl rfl (fun _ _ => rfl) (fun x1 => ?_)
      simp only [Act.put, List.setIfInBounds_toArray, List.set_cons_zero, List.set_cons_succ]
      refine rel_index 43 32 _ _ rfl b o n c 3 k rfl rfl hlt Tryd.underlying43 (by kernel_rfl) rfl rfl (fun x2 => ?_)
      simp only [Act.put, List.setIfInBounds_toArray, List.set_cons_zero, List.set_cons_succ]
      refine rel_load 32 _ rfl b (o + k * 3) rfl (srow ksVisit F k) _ rfl rfl g1.out Tryd.underlying32 rfl (by rw [srow_size]; kernel_rfl) (fun x3 => ?_)
      simp only [Act.put, List.setIfInBounds_toArray, List.set_cons_zero, List.set_cons_succ]
      refine rel_val _ rfl rfl (fun _ _ => rfl) (fun x4 => ?_)
      simp only [Act.put, List.setIfInBounds_toArray, List.set_cons_zero, List.set_cons_succ]
      refine rel_val _ rfl rfl (fun _ _ => rfl) (fun x5 => ?_)
      simp only [Act.put, List.setIfInBounds_toArray, List.set_cons_zero, List.set_cons_succ]
      refine rel_index 43 32 _ _ rfl d o2 n e 3 k rfl rfl hlt Tryd.underlying43 (by kernel_rfl) rfl rfl (fun x6 => ?_)
      simp only [Act.put, List.setIfInBounds_toArray, List.set_cons_zero, List.set_cons_succ]
      refine rel_load 32 _ rfl d (o2 + k * 3) rfl (srow ksVisit F k) _ rfl rfl g2.out Tryd.underlying32 rfl (by rw [srow_size]; kernel_rfl) (fun x7 => ?_)
      simp only [Act.put, List.setIfInBounds_toArray, List.set_cons_zero, List.set_cons_succ]
      refine rel_call _ 15 #[.agg (srow ksVisit F k), .agg (srow ksVisit F k)] rfl rfl rfl rfl (enters_of Tryd.func15 (by kernel_rfl) rfl) (fun w' _ => eqVisit_same F k w') (fun x8 => ?_)
      simp only [Act.put, List.setIfInBounds_toArray, List.set_cons_zero, List.set_cons_succ]
      refine rel_val _ rfl rfl (fun _ _ => rfl) (fun x9 => ?_)
      simp only [Act.put, List.setIfInBounds_toArray, List.set_cons_zero, List.set_cons_succ]
      refine rel_nil (fun w' inv => ?_)
      have hb' := inv.cls
      clear inv
      go_wp2_with fail
      go_roundw
      case rel => exact ⟨k + 1, by omega, by go_num, hb'⟩
      case measure => simp [intOf]; omega
    · obtain rfl : k = n := by omega
      go_wp2_with fail
      go_ret
      exact ⟨rfl, hb⟩
theorem Veq_J (n : Nat) (hn : n ≤ 2 ^ 40) (F : Nat → Nat → Int) (p p2 : Option Addr) (c e : Nat) (w : World) (J1 : InA ksVisit w p n F) (J2 : InA ksVisit w p2 n F) :
    Calls Tryd.prog 18 #[.slice p n c, .slice p2 n e] w fun e w' => e = .returned (.bool true) ∧ Below w.heap.size w w' := by
  rcases J1 with rfl | ⟨b, o, rfl, I1⟩
  · exact Veq_nil p p2 c e w
  · rcases J2 with rfl | ⟨d, o2, rfl, I2⟩
    · exact Veq_nil _ p2 c e w
    · exact Veq_some n hn F b o d o2 c e w I1 I2
/-- What a mark writes. -/
def mkVisit (m : Nat) (i j : Nat) : Int := (ksVisit.getD j .i64).wrap ((m : Int) + 3 * (i : Int) + (j : Int))
theorem Vmark_nil (p : Option Addr) (c : Nat) (m : Int) (w : World) : Calls Tryd.prog 19 #[.slice p 0 c, .int .i64 m] w fun e w' => e = .returned (.int .i64 m) ∧ w = w' := by
  go_enter Tryd.func19, Tryd.ntmps19
  go_wp2_with fail
  refine wp_loop_rounds 1 ?_
  rw [rounds_succ]
  go_wp2_with fail
  go_ret
  exact ⟨rfl, rfl⟩
theorem Vheld_nil (p : Option Addr) (c : Nat) (m : Int) (w : World) : Calls Tryd.prog 20 #[.slice p 0 c, .int .i64 m] w fun e w' => e = .returned (.int .i64 m) ∧ w = w' := by
  go_enter Tryd.func20, Tryd.ntmps20
  go_wp2_with fail
  refine wp_loop_rounds 1 ?_
  rw [rounds_succ]
  go_wp2_with fail
  go_ret
  exact ⟨rfl, rfl⟩
set_option maxHeartbeats 4000000 in
theorem Vmark_some (n : Nat) (hn : n ≤ 2 ^ 40) (m : Nat) (hm : m ≤ 2 ^ 41) (b o c : Nat) (cs : Array Value) (hcs : o + n * 3 ≤ cs.size) (w : World) (B : Blk w b cs 32) :
    Calls Tryd.prog 19 #[.slice (some ⟨b, o, none⟩) n c, .int .i64 m] w fun e w' => e = .returned (.int .i64 ((m : Int) + 3 * (n : Int))) ∧ w.grownBy w' (some b) ∧ w'.heap.size = w.heap.size ∧ InS w' b o n ksVisit (mkVisit m) ∧ ∃ cs' : Array Value, cs'.size = cs.size ∧ Blk w' b cs' 32 := by
  go_enter Tryd.func19, Tryd.ntmps19
  go_wp2_with fail
  go_loopw [1, 5] (fun v i wr => ∃ k : Nat, k ≤ n ∧ i = .int .i64 k ∧ v = .int .i64 ((m : Int) + 3 * (k : Int)) ∧ Hid (w.grownBy wr (some b)) ∧ Hid (wr.heap.size = w.heap.size) ∧ Hid (∃ cs' : Array Value, cs'.size = cs.size ∧ Blk wr b cs' 32 ∧ ∀ i, i < k → ∀ j, j < 3 → cs'[o + i * 3 + j]? = some (sget ksVisit (mkVisit m) i j))) (fun _ i _ => n - (intOf i).toNat)
  case atStart => exact ⟨0, by omega, rfl, by simp, Lib.hid ⟨rfl, rfl, rfl, Nat.le_refl _, fun _ _ _ => rfl⟩, Lib.hid rfl, Lib.hid ⟨cs, rfl, B, fun i hi => by omega⟩⟩
  case round =>
    obtain ⟨k, hk, rfl, rfl, hgr, hsz, hB⟩ := hrel
    by_cases hlt : k < n
    · obtain ⟨cs', hc', B', hI⟩ := hB.out
      have HI := Lib.hid hI
      clear hB hI
      have c0 := B'.cell (i := o + k * 3) (Array.getElem?_eq_getElem (show o + k * 3 < cs'.size by omega))
      have e0 := B'.free (o + k * 3)
      go_upto_region 5 with (fail)
      clear c0 e0
      have B1 := B'.set (o + k * 3) (.int .i8 (IntKind.i8.wrap ((m : Int) + 3 * (k : Int))))
      have hs1 : Hid ((cs'.setIfInBounds (o + k * 3) (.int .i8 (IntKind.i8.wrap ((m : Int) + 3 * (k : Int))))).size = cs'.size) := Lib.hid (by simp)
      have g1 := Lib.hid (Ngrown_cell wr b (o + k * 3) (.int .i8 (IntKind.i8.wrap ((m : Int) + 3 * (k : Int)))))
      have z1 : Hid ((wr.setCell ⟨b, o + k * 3, none⟩ (.int .i8 (IntKind.i8.wrap ((m : Int) + 3 * (k : Int))))).heap.size = wr.heap.size) := Lib.hid (by simp)
      obtain ⟨d1, hd1⟩ : ∃ x, cs'.setIfInBounds (o + k * 3) (.int .i8 (IntKind.i8.wrap ((m : Int) + 3 * (k : Int)))) = x := ⟨_, rfl⟩
      have hD1 := Lib.hid hd1
      rw [hd1] at B1 hs1
      clear hd1
      generalize wr.setCell _ _ = V1 at B1 g1 z1 ⊢
      have c0 := B1.cell (i := o + k * 3 + 1) (Array.getElem?_eq_getElem (show o + k * 3 + 1 < d1.size by have := hs1.out; omega))
      have e0 := B1.free (o + k * 3 + 1)
      go_upto_region 7 with (fail)
      clear c0 e0
      have B2 := B1.set (o + k * 3 + 1) (.int .i16 (IntKind.i16.wrap ((m : Int) + 3 * (k : Int) + 1)))
      have hs2 : Hid ((d1.setIfInBounds (o + k * 3 + 1) (.int .i16 (IntKind.i16.wrap ((m : Int) + 3 * (k : Int) + 1)))).size = cs'.size) := Lib.hid (by simp; exact hs1.out)
      have g2 := Lib.hid (Ngrown_cell V1 b (o + k * 3 + 1) (.int .i16 (IntKind.i16.wrap ((m : Int) + 3 * (k : Int) + 1))))
      have z2 : Hid ((V1.setCell ⟨b, o + k * 3 + 1, none⟩ (.int .i16 (IntKind.i16.wrap ((m : Int) + 3 * (k : Int) + 1)))).heap.size = V1.heap.size) := Lib.hid (by simp)
      obtain ⟨d2, hd2⟩ : ∃ x, d1.setIfInBounds (o + k * 3 + 1) (.int .i16 (IntKind.i16.wrap ((m : Int) + 3 * (k : Int) + 1))) = x := ⟨_, rfl⟩
      have hD2 := Lib.hid hd2
      rw [hd2] at B2 hs2
      clear hd2
      generalize V1.setCell _ _ = V2 at B2 g2 z2 ⊢
      have c0 := B2.cell (i := o + k * 3 + 2) (Array.getElem?_eq_getElem (show o + k * 3 + 2 < d2.size by have := hs2.out; omega))
      have e0 := B2.free (o + k * 3 + 2)
      go_wp2_with fail
      clear c0 e0
      go_roundw
      case rel =>
        refine ⟨k + 1, by omega, by go_num, by go_num, Lib.hid (Ngrown_trans hgr.out (Ngrown_trans g1.out (Ngrown_trans g2.out (Ngrown_cell _ _ _ _)))), Lib.hid (by rw [← hsz.out]; simp; rw [z2.out, z1.out]), Lib.hid ⟨_, by simp; rw [← hc']; exact hs2.out, B2.set (o + k * 3 + 2) _, fun i hi q hq => ?_⟩⟩
        have hcs' : o + n * 3 ≤ cs'.size := by omega
        rw [← hD2.out, ← hD1.out]
        simp only [Array.getElem?_setIfInBounds, Array.size_setIfInBounds]
        by_cases e : i = k
        · subst e
          have hq4 : q = 0 ∨ q = 1 ∨ q = 2 := by omega
          rcases hq4 with rfl | rfl | rfl
          · rw [if_neg (by omega)]; rw [if_neg (by omega)]; rw [if_pos (by omega), if_pos (by omega)]; exact congrArg (fun x => some (Value.int .i8 (IntKind.i8.wrap x))) (show _ = (m : Int) + 3 * (i : Int) + ((0 : Nat) : Int) by omega)
          · rw [if_neg (by omega)]; rw [if_pos (by omega), if_pos (by omega)]; exact congrArg (fun x => some (Value.int .i16 (IntKind.i16.wrap x))) (show _ = (m : Int) + 3 * (i : Int) + ((1 : Nat) : Int) by omega)
          · rw [if_pos (by omega), if_pos (by omega)]; exact congrArg (fun x => some (Value.int .i16 (IntKind.i16.wrap x))) (show _ = (m : Int) + 3 * (i : Int) + ((2 : Nat) : Int) by omega)
        · rw [if_neg (by omega)]; rw [if_neg (by omega)]; rw [if_neg (by omega)]; exact HI.out i (by omega) q hq
      case measure => simp [intOf]; omega
    · obtain rfl : k = n := by omega
      go_wp2_with fail
      go_ret
      obtain ⟨cs', hc', B', hI⟩ := hB.out
      refine ⟨rfl, hgr.out, hsz.out, fun i hi j v hj => ?_, cs', hc', B'⟩
      have hjs : j < 3 := by
        have := (List.getElem?_eq_some_iff.1 hj).1
        simpa [srow_size] using this
      rw [Array.getElem?_toList, srow_get _ _ _ _ hjs] at hj
      rw [← Option.some.inj hj]
      exact B'.cell (hI i hi j hjs)
theorem Vmark_any {lo hi : Nat} (n : Nat) (hn : n ≤ 2 ^ 40) (m : Nat) (hm : m ≤ 2 ^ 41) (p : Option Addr) (c : Nat) (w : World) (H : SW ksVisit 32 lo hi w p n) :
    Calls Tryd.prog 19 #[.slice p n c, .int .i64 m] w fun e w' => e = .returned (.int .i64 ((m + 3 * n : Nat) : Int)) ∧ NMarks lo hi w w' ∧ SV ksVisit lo hi w' p n (mkVisit m) := by
  rcases H with rfl | ⟨b, o, cs, rfl, h1, h2, h3, B⟩
  · refine (Vmark_nil p c m w).mono ?_
    rintro e w' ⟨rfl, rfl⟩
    exact ⟨by simp, .inl rfl, .inl rfl⟩
  · refine (Vmark_some n hn m hm b o c cs h3 w B).mono ?_
    rintro e w' ⟨rfl, hg, hs, hI, cs', _, B'⟩
    exact ⟨by rw [Int.natCast_add, Int.natCast_mul]; rfl, .inr ⟨b, h1, h2, hg, hs⟩, .inr ⟨b, o, rfl, h1, h2, hI⟩⟩
set_option maxHeartbeats 4000000 in
theorem Vheld_some (n : Nat) (hn : n ≤ 2 ^ 40) (m : Nat) (hm : m ≤ 2 ^ 41) (b o c : Nat) (w : World) (I : InS w b o n ksVisit (mkVisit m)) :
    Calls Tryd.prog 20 #[.slice (some ⟨b, o, none⟩) n c, .int .i64 m] w fun e w' => e = .returned (.int .i64 ((m : Int) + 3 * (n : Int))) ∧ Below w.heap.size w w' := by
  have HI := Lib.hid I
  clear I
  go_enter Tryd.func20, Tryd.ntmps20
  go_wp2_with fail
  go_loopw [1, 5] (fun v i wr => ∃ k : Nat, k ≤ n ∧ i = .int .i64 k ∧ v = .int .i64 ((m : Int) + 3 * (k : Int)) ∧ Below w.heap.size w wr) (fun _ i _ => n - (intOf i).toNat)
  case atStart => exact ⟨0, by omega, rfl, by simp, Below.refl _ _⟩
  case round =>
    obtain ⟨k, hk, rfl, rfl, hb⟩ := hrel
    by_cases hlt : k < n
    · have hI := HI.out.later hb
      have c0 : wr.cell? ⟨b, o + k * 3, none⟩ = some (.int .i8 (IntKind.i8.wrap ((m : Int) + 3 * (k : Int)))) := by
        have h := hI k hlt 0 _ (by rw [Array.getElem?_toList]; exact srow_get ksVisit (mkVisit m) k 0 (by decide))
        have e : ((m : Int) + 3 * (k : Int)) = (m : Int) + 3 * (k : Int) + ((0 : Nat) : Int) := by omega
        rw [e]; exact h
      have c1 : wr.cell? ⟨b, o + k * 3 + 1, none⟩ = some (.int .i16 (IntKind.i16.wrap ((m : Int) + 3 * (k : Int) + 1))) := by
        have h := hI k hlt 1 _ (by rw [Array.getElem?_toList]; exact srow_get ksVisit (mkVisit m) k 1 (by decide))
        have e : ((m : Int) + 3 * (k : Int) + 1) = (m : Int) + 3 * (k : Int) + ((1 : Nat) : Int) := by omega
        rw [e]; exact h
      have c2 : wr.cell? ⟨b, o + k * 3 + 2, none⟩ = some (.int .i16 (IntKind.i16.wrap ((m : Int) + 3 * (k : Int) + 1 + 1))) := by
        have h := hI k hlt 2 _ (by rw [Array.getElem?_toList]; exact srow_get ksVisit (mkVisit m) k 2 (by decide))
        have e : ((m : Int) + 3 * (k : Int) + 1 + 1) = (m : Int) + 3 * (k : Int) + ((2 : Nat) : Int) := by omega
        rw [e]; exact h
      clear hI
      go_wp2_with fail
      go_roundw
      case rel => exact ⟨k + 1, by omega, by go_num, by go_num, hb⟩
      case measure => simp [intOf]; omega
    · obtain rfl : k = n := by omega
      go_wp2_with fail
      go_ret
      exact ⟨rfl, hb⟩
theorem Vheld_any {lo hi : Nat} (n : Nat) (hn : n ≤ 2 ^ 40) (m : Nat) (hm : m ≤ 2 ^ 41) (p : Option Addr) (c : Nat) (w : World) (H : SV ksVisit lo hi w p n (mkVisit m)) :
    Calls Tryd.prog 20 #[.slice p n c, .int .i64 m] w fun e w' => e = .returned (.int .i64 ((m + 3 * n : Nat) : Int)) ∧ Below w.heap.size w w' := by
  rcases H with rfl | ⟨b, o, rfl, _, _, I⟩
  · refine (Vheld_nil p c m w).mono ?_
    rintro e w' ⟨rfl, rfl⟩
    exact ⟨by simp, Below.refl _ _⟩
  · refine (Vheld_some n hn m hm b o c w I).mono ?_
    rintro e w' ⟨rfl, hb⟩
    exact ⟨by rw [Int.natCast_add, Int.natCast_mul]; rfl, hb⟩
end Go.Proofs.YtaioflkonpommaaDoor
