/-
  Beats backward: slices.Clone and slices.Reverse of beats; the model's, the program's.
-/
import Derived.Test.YtdjbaajcgipebaaDoorJoinI
import Derived.BigRegion
import Derived.Lib.SliceRun
namespace Go.Proofs.YtdjbaajcgipebaaDoor
open Go Go.RowKit

/-- n numbers in a block, from a place on, that may be written. -/
def HS (r : Nat → Option Value) (w : World) (b o n : Nat) (f : Nat → Int) : Prop := ∃ cs : Array Value, Blk w b cs 24 ∧ o + n ≤ cs.size ∧ (∀ i, i < n → cs[o + i]? = some (.int .i16 (f i))) ∧ ∀ q, q < o → cs[q]? = r q
theorem HS.set {r : Nat → Option Value} {w : World} {b o n : Nat} {f : Nat → Int} (h : HS r w b o n f) (k : Nat) (hk : k < n) (x : Int) : HS r (w.setCell ⟨b, o + k, none⟩ (.int .i16 x)) b o n (fun i => if i = k then x else f i) := by
  obtain ⟨cs, hB, hs, hc, hr⟩ := h
  refine ⟨_, hB.set (o + k) _, by simpa using hs, fun i hi => ?_, fun q hq => by rw [Array.getElem?_setIfInBounds, if_neg (by omega)]; exact hr q hq⟩
  rw [Array.getElem?_setIfInBounds]
  show _ = some (Value.int .i16 (if i = k then x else f i))
  by_cases e : k = i
  · subst e; rw [if_pos rfl, if_pos (by omega), if_pos rfl]
  · rw [if_neg (by omega), if_neg (by omega)]; exact hc i hi
theorem HS.congr {r : Nat → Option Value} {w : World} {b o n : Nat} {f g : Nat → Int} (h : HS r w b o n f) (e : ∀ i, i < n → f i = g i) : HS r w b o n g := by
  obtain ⟨cs, hB, hs, hc, hr⟩ := h
  exact ⟨cs, hB, hs, fun i hi => by rw [hc i hi, e i hi], hr⟩
theorem HS.cell {r : Nat → Option Value} {w : World} {b o n : Nat} {f : Nat → Int} (h : HS r w b o n f) (i : Nat) (hi : i < n) : w.cell? ⟨b, o + i, none⟩ = some (.int .i16 (f i)) := by
  obtain ⟨cs, hB, hs, hc, _⟩ := h
  exact hB.cell (hc i hi)
theorem HS.free {r : Nat → Option Value} {w : World} {b o n : Nat} {f : Nat → Int} (h : HS r w b o n f) (i : Nat) : w.frozen? ⟨b, i, none⟩ = false := by
  obtain ⟨cs, hB, _, _, _⟩ := h; exact hB.free i
theorem HS.lt {r : Nat → Option Value} {w : World} {b o n : Nat} {f : Nat → Int} (h : HS r w b o n f) : b < w.heap.size := by
  obtain ⟨cs, hB, _, _, _⟩ := h; exact hB.lt
def rvAt (n : Nat) (f : Nat → Int) (i p : Nat) : Int := if p < i ∨ n - 1 - p < i then f (n - 1 - p) else f p
theorem rvAt_step {n : Nat} {f : Nat → Int} {i j p : Nat} (hj : j = n - 1 - i) (hij : i < j) (hp : p < n) : (if p = j then f i else if p = i then f j else rvAt n f i p) = rvAt n f (i + 1) p := by
  unfold rvAt
  by_cases e1 : p = j
  · rw [if_pos e1, if_pos (by omega)]; congr 1; omega
  · rw [if_neg e1]
    by_cases e2 : p = i
    · rw [if_pos e2, if_pos (by omega)]; congr 1; omega
    · rw [if_neg e2]
      by_cases e3 : p < i ∨ n - 1 - p < i
      · rw [if_pos e3, if_pos (by omega)]
      · rw [if_neg e3, if_neg (by omega)]
theorem rvAt_end {n : Nat} {f : Nat → Int} {i p : Nat} (h : n ≤ 2 * i + 1) (hp : p < n) : rvAt n f i p = f (n - 1 - p) := by
  unfold rvAt
  by_cases e3 : p < i ∨ n - 1 - p < i
  · rw [if_pos e3]
  · rw [if_neg e3]; congr 1; omega
theorem Hgrown_drew {A B : World} {row : Option Nat} (h : A.grownBy B row) : A.grownBy B.drew row := ⟨h.os, h.tape, h.output, h.size, h.block⟩
set_option maxRecDepth 100000 in
set_option maxHeartbeats 2000000 in
theorem reverse_any (n : Nat) (hn : n ≤ 1000) (f : Nat → Int) (b o c : Nat) (r : Nat → Option Value) (w : World) (H : HS r w b o n f) :
    Calls Tryd.prog 69 #[.slice (some ⟨b, o, none⟩) n c] w fun e w' => (∃ v, e = .returned v) ∧ Hid (HS r w' b o n (fun i => f (n - 1 - i))) ∧ Hid (w.grownBy w' (some b)) := by
  have H0 := Lib.hid H
  clear H
  go_enter Tryd.func69, Tryd.ntmps69
  go_wp2_with fail
  go_loopw [2, 3] (fun u v wr => ∃ i : Nat, 2 * i ≤ n + 1 ∧ u = .int .i64 i ∧ v = .int .i64 ((n : Int) - 1 - i) ∧ Hid (HS r wr b o n (rvAt n f i)) ∧ Hid (w.grownBy wr (some b))) (fun u _ _ => n - (intOf u).toNat)
  case atStart => exact ⟨0, by omega, rfl, by simp, Lib.hid (H0.out.congr (fun i hi => by unfold rvAt; rw [if_neg (by omega)])), Lib.hid ⟨rfl, rfl, rfl, Nat.le_refl _, fun _ _ _ => rfl⟩⟩
  case round =>
    obtain ⟨i, hi, rfl, rfl, hS, hg⟩ := hrel
    by_cases hlt : (i : Int) < (n : Int) - 1 - i
    · obtain ⟨j, hj⟩ : ∃ j : Nat, (n : Int) - 1 - i = (j : Int) := ⟨n - 1 - i, by omega⟩
      have hjn : j < n := by omega
      have hin : i < n := by omega
      have hij : i < j := by omega
      have hje : j = n - 1 - i := by omega
      rw [hj] at hlt ⊢
      have ci := hS.out.cell i hin
      have cj := hS.out.cell j hjn
      rw [show rvAt n f i i = f i by unfold rvAt; rw [if_neg (by omega)]] at ci
      rw [show rvAt n f i j = f j by unfold rvAt; rw [if_neg (by omega)]] at cj
      have ei := hS.out.free (o + i)
      have ej := hS.out.free (o + j)
      have HJ := Lib.hid hj
      have HE := Lib.hid hje
      clear hj hje
      go_wp2_with fail
      go_region
      all_goals go_wp2_with fail
      all_goals go_roundw
      case rel =>
        refine ⟨i + 1, by have := HE.out; omega, by go_num, ?_, Lib.hid (((hS.out.set i hin (f j)).set j hjn (f i)).congr (fun p hp => rvAt_step HE.out hij hp)), Lib.hid (Hgrown_drew (Hgrown_trans (Hgrown_trans hg.out (Hgrown_cell _ _ _ _)) (Hgrown_cell _ _ _ _)))⟩
        have := HJ.out
        congr 1; omega
      case measure => simp [intOf]; omega
    · go_wp2_with fail
      go_end0
      exact ⟨⟨_, rfl⟩, Lib.hid (hS.out.congr (fun p hp => rvAt_end (by omega) hp)), hg⟩
theorem reverse_nil (p : Option Addr) (c : Nat) (w : World) : Calls Tryd.prog 69 #[.slice p 0 c] w fun e w' => (∃ v, e = .returned v) ∧ w = w' := by
  go_enter Tryd.func69, Tryd.ntmps69
  go_wp2_with fail
  refine wp_loop_rounds 1 ?_
  rw [rounds_succ]
  go_wp2_with fail
  go_end0
  exact ⟨⟨_, rfl⟩, rfl⟩
set_option maxHeartbeats 2000000 in
set_option maxRecDepth 100000 in
theorem cloneB_any (n : Nat) (hn : n ≤ 2 ^ 40) (g : Nat → Int) (b c : Nat) (w : World) (I : InH w b 0 n g) :
    Calls Tryd.prog 68 #[.slice (some ⟨b, 0, none⟩) n c] w fun e w' => ∃ v', e = .returned v' ∧ w'.ownsRow w.heap.size 24 1 v' n ((nums g n).map (Value.int .i16)) ∧ Below w.heap.size w w' := by
  have HI := Lib.hid I
  clear I
  have q22 : ∀ (w : World) (a : Option Addr) (n c n' c' : Nat), (binOp .eql 32 (.slice a n c) (.slice none n' c')).run Tryd.prog w = .ok (.bool a.isNone) w := fun w a n c n' c' => Lib.run_eql_slice_nil w _ _ a n c n' c' Tryd.underlying32
  obtain ⟨i0, hi, hz0, hz1, hz2⟩ := info_parts Hinfo
  have R0 : (w.alloc (.cells #[] 24)).ownsRow w.heap.size 24 1 (.slice (some ⟨w.heap.size, 0, none⟩) 0 0) 0 [] := World.ownsRow_made w #[] 0 (Nat.le_refl _) (Nat.zero_le _) (by simp)
  have HR0 := Lib.hid R0
  have C0 := Lib.hid ((Below.refl w.heap.size w).alloc (Nat.le_refl _) (.cells #[] 24))
  clear R0
  go_enter Tryd.func68, Tryd.ntmps68
  go_wp2_with (at_builtin; refine wpList_append_own _ rfl _ _ 32 rfl w.heap.size 24 i0 (.int .i16 0) 1 2 Tryd.underlying32 hi hz0 hz1 hz2 rfl (by decide) _ _ _ rfl HR0.out ⟨b, 0, none⟩ n c ((nums g n).map (Value.int .i16)) rfl (by rw [List.length_map, nums_length]; omega) (Hnews (HI.out.later C0.out)) (Hone _) (by unfold maxLen; omega) (by omega) (by simp) ?_; intro v1 w1 ho1 hg1 _; have C1 := Lib.hid (below_own C0.out C0.out.size HR0.out hg1); simp only [Nat.zero_add, List.nil_append] at ho1; have O1 := Lib.hid ho1; clear ho1 hg1)
  go_ret
  exact ⟨_, rfl, O1.out, C1.out⟩
/-- The first cell, and then the others from the last one on. -/
def backG (n : Nat) (g : Nat → Int) (i : Nat) : Int := if i = 0 then g 0 else g (n - i)
set_option maxRecDepth 100000 in
set_option maxHeartbeats 4000000 in
theorem back_any (n : Nat) (hn1 : 1 ≤ n) (hn2 : n ≤ 40) (g : Nat → Int) (b : Nat) (w : World) (I : InH w b 0 n g) :
    Calls Tryd.prog 46 #[.slice (some ⟨b, 0, none⟩) n n] w fun e w' => ∃ p c, e = .returned (.slice p n c) ∧ HV w.heap.size w'.heap.size w' p n (backG n g) ∧ HW w.heap.size w'.heap.size w' p n ∧ Below w.heap.size w w' := by
  go_enter Tryd.func46, Tryd.ntmps46
  go_upto_region 2 with (go_at_call 68; refine (cloneB_any n (by omega) g b n _ I).mono ?_; rintro e w1 ⟨v, rfl, ho, hb⟩; obtain ⟨_, h0 | ⟨bb, cap, cs, rfl, hbb, hB, c1, c2, c3, c4⟩⟩ := ho; exact absurd h0.2 (by omega); have HB := Lib.hid hB; have HC3 := Lib.hid c3; have HC4 := Lib.hid c4; have HBE := Lib.hid hb; clear hB c3 c4 hb)
  have hB : Blk w1 bb cs 24 := HB.out
  have hs : cs.size = cap := by rw [HC3.out, Nat.mul_one]
  have hcell : ∀ i, i < n → cs[i]? = some (.int .i16 (g i)) := fun i hi => by
    have h := HC4.out
    rw [Nat.mul_one] at h
    have h5 : (cs.toList.take n)[i]? = ((nums g n).map (Value.int .i16))[i]? := by rw [h]
    rw [List.getElem?_take, if_pos hi, Array.getElem?_toList, List.getElem?_map, List.getElem?_eq_getElem (show i < (nums g n).length by rw [nums_length]; exact hi)] at h5
    rw [h5]; simp [nums]
  have hlt := hB.lt
  have HS1 : Hid (HS (fun _ => some (.int .i16 (g 0))) w1 bb 1 (n - 1) (fun i => g (1 + i))) := Lib.hid ⟨cs, hB, by omega, fun i hi => hcell (1 + i) (by omega), fun q hq => by (have e : q = 0 := by omega); subst e; exact hcell 0 (by omega)⟩
  have HCC := Lib.hid hcell
  have HSZ := Lib.hid hs
  clear hB hs hcell
  by_cases hc1 : cap = 1
  · subst hc1
    obtain rfl : n = 1 := by omega
    have HS0 : Hid (HS (fun _ => none) w1 bb 0 0 g) := Lib.hid ⟨cs, HB.out, by omega, fun i hi => absurd hi (by omega), fun q hq => absurd hq (by omega)⟩
    go_wp2_with (go_at_call 69; refine (reverse_nil _ _ _).mono ?_; rintro e w2 ⟨⟨ev, rfl⟩, rfl⟩)
    go_ret
    exact ⟨_, _, rfl, .inr ⟨bb, 0, rfl, hbb, hlt, fun i hi => by
      obtain rfl : i = 0 := by omega
      rw [cell_of_row _ _ _ _ _ _ HB.out, HCC.out 0 (by omega)]; rfl⟩, .inr ⟨bb, 0, cs, rfl, hbb, hlt, by have := HSZ.out; omega, HB.out⟩, HBE.out⟩
  · have hk : ¬ cap = 1 := hc1
    go_wp2_with (go_at_call 69; refine (reverse_any (n - 1) (by omega) (fun i => g (1 + i)) bb 1 _ _ _ HS1.out).mono ?_; rintro e w2 ⟨⟨ev, rfl⟩, hS, hg⟩)
    go_ret
    obtain ⟨cs2, hB2, hs2, hc2, hr2⟩ := hS.out
    have hB3 := HBE.out.size
    refine ⟨_, _, rfl, .inr ⟨bb, 0, rfl, hbb, hB2.lt, fun i hi => ?_⟩, .inr ⟨bb, 0, cs2, rfl, hbb, hB2.lt, by omega, hB2⟩, HBE.out.grown hg.out hB3 (fun k e => by cases e; exact hbb)⟩
    rw [cell_of_row _ _ _ _ _ _ hB2, Nat.zero_add]
    unfold backG
    by_cases h0 : i = 0
    · subst h0
      rw [hr2 0 (by omega), if_pos rfl]
    · rw [if_neg h0]
      obtain ⟨k, rfl⟩ : ∃ k, i = 1 + k := ⟨i - 1, by omega⟩
      rw [hc2 k (by omega)]
      show some (Value.int .i16 (g (1 + (n - 1 - 1 - k)))) = _
      rw [show 1 + (n - 1 - 1 - k) = n - (1 + k) by omega]
end Go.Proofs.YtdjbaajcgipebaaDoor
