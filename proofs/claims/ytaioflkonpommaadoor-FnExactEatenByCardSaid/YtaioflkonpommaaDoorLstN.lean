/-
  Lists of numbers that calls make: where they lie, how they are marked, held and compared.
-/
import Derived.Test.YtaioflkonpommaaDoorInts
import Derived.Test.YtaioflkonpommaaDoorNumL
import Derived.RangeFuncOwn
import Derived.Deep.Onto
import Derived.Lib.Hide
import Derived.Laws.AppendOwn
import Derived.Lib.SliceRun
namespace Go.Proofs.YtaioflkonpommaaDoor
open Go Go.RowKit

theorem Ncell {w w' : World} {a : Addr} {v : Value} (h : w.cell? a = some v) (hb : Below w.heap.size w w') : w'.cell? a = some v := by
  rw [hb.cell (World.block_lt_of_cell? _ _ h)]; exact h
/-- What has turned since: nothing, or one block among those from lo to hi. -/
def NMarks (lo hi : Nat) (w w' : World) : Prop := w' = w ∨ ∃ b, lo ≤ b ∧ b < hi ∧ w.grownBy w' (some b) ∧ w'.heap.size = w.heap.size
theorem NMarks.size {lo hi : Nat} {w w' : World} (h : NMarks lo hi w w') : w'.heap.size = w.heap.size := by
  rcases h with rfl | ⟨_, _, _, _, h⟩
  · rfl
  · exact h
/-- n numbers of a slice that lie in a block from lo to hi. -/
def NV (lo hi : Nat) (w : World) (p : Option Addr) (n : Nat) (g : Nat → Int) : Prop := n = 0 ∨ ∃ b o, p = some ⟨b, o, none⟩ ∧ lo ≤ b ∧ b < hi ∧ ∀ i, i < n → w.cell? ⟨b, o + i, none⟩ = some (.int .i64 (g i))
/-- The same, to be written. -/
def NW (lo hi : Nat) (w : World) (p : Option Addr) (n : Nat) : Prop := n = 0 ∨ ∃ b o cs, p = some ⟨b, o, none⟩ ∧ lo ≤ b ∧ b < hi ∧ o + n ≤ cs.size ∧ Blk w b cs 2
theorem NV.later {lo hi : Nat} {w w' : World} {p : Option Addr} {n : Nat} {g : Nat → Int} (h : NV lo hi w p n g) (hb : Below w.heap.size w w') : NV lo hi w' p n g :=
  h.imp id fun ⟨b, o, e, h1, h2, h3⟩ => ⟨b, o, e, h1, h2, fun i hi => Ncell (h3 i hi) hb⟩
theorem NW.later {lo hi : Nat} {w w' : World} {p : Option Addr} {n : Nat} (h : NW lo hi w p n) (hb : Below w.heap.size w w') : NW lo hi w' p n :=
  h.imp id fun ⟨b, o, cs, e, h1, h2, h3, h4⟩ => ⟨b, o, cs, e, h1, h2, h3, h4.later hb⟩
theorem NV.congr {lo hi : Nat} {w : World} {p : Option Addr} {n : Nat} {g g' : Nat → Int} (h : NV lo hi w p n g) (e : ∀ i, i < n → g i = g' i) : NV lo hi w p n g' :=
  h.imp id fun ⟨b, o, e1, h1, h2, h3⟩ => ⟨b, o, e1, h1, h2, fun i hi => by rw [← e i hi]; exact h3 i hi⟩
theorem NV.mono {lo hi lo' hi' : Nat} {w : World} {p : Option Addr} {n : Nat} {g : Nat → Int} (h : NV lo hi w p n g) (h1 : lo' ≤ lo) (h2 : hi ≤ hi') : NV lo' hi' w p n g :=
  h.imp id fun ⟨b, o, e, a1, a2, a3⟩ => ⟨b, o, e, by omega, by omega, a3⟩
theorem NW.mono {lo hi lo' hi' : Nat} {w : World} {p : Option Addr} {n : Nat} (h : NW lo hi w p n) (h1 : lo' ≤ lo) (h2 : hi ≤ hi') : NW lo' hi' w p n :=
  h.imp id fun ⟨b, o, cs, e, a1, a2, a3, a4⟩ => ⟨b, o, cs, e, by omega, by omega, a3, a4⟩
theorem NV.j {lo hi : Nat} {w : World} {p : Option Addr} {n : Nat} {g : Nat → Int} (h : NV lo hi w p n g) : InJ w p n g :=
  h.imp id fun ⟨b, o, e, _, _, h3⟩ => ⟨b, o, e, h3⟩
theorem NV.marked {lo hi lo2 hi2 : Nat} {w w' : World} {p : Option Addr} {n : Nat} {g : Nat → Int} (h : NV lo hi w p n g) (hm : NMarks lo2 hi2 w w') (hd : hi ≤ lo2 ∨ hi2 ≤ lo) : NV lo hi w' p n g := by
  rcases hm with rfl | ⟨b2, k1, k2, hg, _⟩
  · exact h
  · exact h.imp id fun ⟨b, o, e, h1, h2, h3⟩ => ⟨b, o, e, h1, h2, fun i hi => hg.cell (h3 i hi) (fun e => by
      have e : b = b2 := by simpa using e
      omega)⟩
theorem NW.marked {lo hi lo2 hi2 : Nat} {w w' : World} {p : Option Addr} {n : Nat} (h : NW lo hi w p n) (hm : NMarks lo2 hi2 w w') (hd : hi ≤ lo2 ∨ hi2 ≤ lo) : NW lo hi w' p n := by
  rcases hm with rfl | ⟨b2, k1, k2, hg, _⟩
  · exact h
  · refine h.imp id fun ⟨b, o, cs, e, h1, h2, h3, h4⟩ => ⟨b, o, cs, e, h1, h2, h3, ?_⟩
    have h5 : w'.heap[b]? = w.heap[b]? := hg.block b h4.lt (fun e => by have := Option.some.inj e; omega)
    unfold Blk; rw [h5]; exact h4
theorem NMem.marked {w0 w w' : World} {L : List Ent} {lo hi : Nat} (H : Mem w0 w L) (hm : NMarks lo hi w w') (h0 : w0.heap.size ≤ lo) (hl : ∀ (i : Nat) (e : Ent), L[i]? = some e → e.b < lo ∨ hi ≤ e.b) : Mem w0 w' L := by
  rcases hm with rfl | ⟨b2, k1, k2, hg, _⟩
  · exact H
  · refine ⟨H.below.grown hg H.below.size (fun k e => by have := Option.some.inj e; omega), fun i e h => ⟨(H.blk i e h).1, ?_⟩, H.apart⟩
    have h4 := (H.blk i e h).2
    have hne := hl i e h
    have h5 : w'.heap[e.b]? = w.heap[e.b]? := hg.block e.b h4.lt (fun e => by have := Option.some.inj e; omega)
    unfold Blk; rw [h5]; exact h4
theorem NBelow.marked {n0 : Nat} {w0 w w' : World} {lo hi : Nat} (H : Below n0 w0 w) (hm : NMarks lo hi w w') (h1 : n0 ≤ lo) (h2 : lo ≤ w.heap.size) : Below n0 w0 w' := by
  rcases hm with rfl | ⟨b2, k1, k2, hg, hs⟩
  · exact H
  · exact H.grown hg (by omega) (fun k e => by have := Option.some.inj e; omega)
theorem Ngrown_cell (W : World) (b i : Nat) (v : Value) : W.grownBy (W.setCell ⟨b, i, none⟩ v) (some b) :=
  ⟨rfl, rfl, rfl, (KeepsWalks.setCell W _ v).size, fun k _ hk => Below.heap_setCell _ _ _ k (fun e => hk (by rw [e]))⟩
theorem Ngrown_trans {A B C : World} {row : Option Nat} (h1 : A.grownBy B row) (h2 : B.grownBy C row) : A.grownBy C row :=
  ⟨h2.os.trans h1.os, h2.tape.trans h1.tape, h2.output.trans h1.output, Nat.le_trans h1.size h2.size, fun k hk hne => (h2.block k (Nat.lt_of_lt_of_le hk h1.size) hne).trans (h1.block k hk hne)⟩
set_option maxHeartbeats 1000000 in
theorem Neq_nil (p p2 : Option Addr) (c e : Nat) (w : World) : Calls Tryd.prog 29 #[.slice p 0 c, .slice p2 0 e] w fun e w' => e = .returned (.bool true) ∧ Below w.heap.size w w' := by
  go_enter Tryd.func29, Tryd.ntmps29
  go_wp2_with fail
  refine wp_loop_rounds 1 ?_
  rw [rounds_succ]
  go_wp2_with fail
  go_ret
  exact ⟨rfl, Below.refl _ _⟩
set_option maxRecDepth 100000 in
set_option maxHeartbeats 1000000 in
theorem Neq_some (n : Nat) (hn : n ≤ 2 ^ 40) (g : Nat → Int) (b o d o2 c e : Nat) (w : World) (I1 : InI w b o n g) (I2 : InI w d o2 n g) :
    Calls Tryd.prog 29 #[.slice (some ⟨b, o, none⟩) n c, .slice (some ⟨d, o2, none⟩) n e] w fun e w' => e = .returned (.bool true) ∧ Below w.heap.size w w' := by
  have H1 := Lib.hid I1
  have H2 := Lib.hid I2
  clear I1 I2
  go_enter Tryd.func29, Tryd.ntmps29
  go_wp2_with fail
  go_loopw [5] (fun i wr => ∃ k : Nat, k ≤ n ∧ i = .int .i64 k ∧ Below w.heap.size w wr) (fun i _ => n - (intOf i).toNat)
  case atStart => exact ⟨0, by omega, rfl, Below.refl _ _⟩
  case round =>
    obtain ⟨k, hk, rfl, hb⟩ := hrel
    by_cases hlt : k < n
    · have c0 := (H1.out.later hb) k hlt
      have d0 := (H2.out.later hb) k hlt
      go_wp2_with fail
      go_region
      all_goals go_wp2_with fail
      all_goals go_roundw
      all_goals (first | (case rel => exact ⟨k + 1, by omega, by go_num, hb.drew⟩) | skip)
      all_goals (simp [intOf]; omega)
    · obtain rfl : k = n := by omega
      go_wp2_with fail
      go_ret
      exact ⟨rfl, hb⟩
theorem Neq_J (n : Nat) (hn : n ≤ 2 ^ 40) (g : Nat → Int) (p p2 : Option Addr) (c e : Nat) (w : World) (J1 : InJ w p n g) (J2 : InJ w p2 n g) :
    Calls Tryd.prog 29 #[.slice p n c, .slice p2 n e] w fun e w' => e = .returned (.bool true) ∧ Below w.heap.size w w' := by
  rcases J1 with rfl | ⟨b, o, rfl, I1⟩
  · exact Neq_nil p p2 c e w
  · rcases J2 with rfl | ⟨d, o2, rfl, I2⟩
    · exact Neq_nil _ p2 c e w
    · exact Neq_some n hn g b o d o2 c e w I1 I2
theorem Nmark_nil (p : Option Addr) (c : Nat) (m : Int) (w : World) : Calls Tryd.prog 30 #[.slice p 0 c, .int .i64 m] w fun e w' => e = .returned (.int .i64 m) ∧ w = w' := by
  go_enter Tryd.func30, Tryd.ntmps30
  go_wp2_with fail
  refine wp_loop_rounds 1 ?_
  rw [rounds_succ]
  go_wp2_with fail
  go_ret
  exact ⟨rfl, rfl⟩
theorem Nheld_nil (p : Option Addr) (c : Nat) (m : Int) (w : World) : Calls Tryd.prog 31 #[.slice p 0 c, .int .i64 m] w fun e w' => e = .returned (.int .i64 m) ∧ w = w' := by
  go_enter Tryd.func31, Tryd.ntmps31
  go_wp2_with fail
  refine wp_loop_rounds 1 ?_
  rw [rounds_succ]
  go_wp2_with fail
  go_ret
  exact ⟨rfl, rfl⟩
set_option maxHeartbeats 2000000 in
theorem Nmark_some (n : Nat) (hn : n ≤ 2 ^ 40) (m : Nat) (hm : m ≤ 2 ^ 41) (b o c : Nat) (cs : Array Value) (hcs : o + n ≤ cs.size) (w : World) (B : Blk w b cs 2) :
    Calls Tryd.prog 30 #[.slice (some ⟨b, o, none⟩) n c, .int .i64 m] w fun e w' => e = .returned (.int .i64 ((m : Int) + (n : Int))) ∧ w.grownBy w' (some b) ∧ w'.heap.size = w.heap.size ∧ (∀ i, i < n → w'.cell? ⟨b, o + i, none⟩ = some (.int .i64 ((m : Int) + (i : Int)))) ∧ ∃ cs' : Array Value, cs'.size = cs.size ∧ Blk w' b cs' 2 := by
  go_enter Tryd.func30, Tryd.ntmps30
  go_wp2_with fail
  go_loopw [1, 5] (fun v i wr => ∃ k : Nat, k ≤ n ∧ i = .int .i64 k ∧ v = .int .i64 ((m : Int) + (k : Int)) ∧ Hid (w.grownBy wr (some b)) ∧ Hid (wr.heap.size = w.heap.size) ∧ Hid (∀ i, i < k → wr.cell? ⟨b, o + i, none⟩ = some (.int .i64 ((m : Int) + (i : Int)))) ∧ Hid (∃ cs' : Array Value, cs'.size = cs.size ∧ Blk wr b cs' 2)) (fun _ i _ => n - (intOf i).toNat)
  case atStart => exact ⟨0, by omega, rfl, by simp, Lib.hid ⟨rfl, rfl, rfl, Nat.le_refl _, fun _ _ _ => rfl⟩, Lib.hid rfl, Lib.hid (fun i hi => by omega), Lib.hid ⟨cs, rfl, B⟩⟩
  case round =>
    obtain ⟨k, hk, rfl, rfl, hgr, hsz, hI, hB⟩ := hrel
    by_cases hlt : k < n
    · obtain ⟨cs', hc', B'⟩ := hB.out
      have c0 := B'.cell (i := o + k) (Array.getElem?_eq_getElem (show o + k < cs'.size by omega))
      have e0 := B'.free (o + k)
      go_wp2_with fail
      go_roundw
      case rel =>
        refine ⟨k + 1, by omega, by go_num, by go_num, Lib.hid (Ngrown_trans hgr.out (Ngrown_cell _ _ _ _)), Lib.hid (by rw [← hsz.out]; simp), Lib.hid (fun i hi => ?_), Lib.hid ⟨_, by simpa using hc', B'.set (o + k) _⟩⟩
        by_cases e : i = k
        · subst e
          refine (B'.set (o + i) _).cell ?_
          rw [Array.getElem?_setIfInBounds, if_pos rfl, if_pos (by omega)]
        · have h := hI.out i (by omega)
          rw [cell_of_row _ _ _ _ _ _ B'] at h
          refine (B'.set (o + k) _).cell ?_
          rw [Array.getElem?_setIfInBounds, if_neg (by omega)]
          exact h
      case measure => simp [intOf]; omega
    · obtain rfl : k = n := by omega
      go_wp2_with fail
      go_ret
      exact ⟨rfl, hgr.out, hsz.out, hI.out, hB.out⟩
set_option maxHeartbeats 2000000 in
theorem Nheld_some (n : Nat) (hn : n ≤ 2 ^ 40) (m : Nat) (hm : m ≤ 2 ^ 41) (b o c : Nat) (w : World) (I : ∀ i, i < n → w.cell? ⟨b, o + i, none⟩ = some (.int .i64 ((m : Int) + (i : Int)))) :
    Calls Tryd.prog 31 #[.slice (some ⟨b, o, none⟩) n c, .int .i64 m] w fun e w' => e = .returned (.int .i64 ((m : Int) + (n : Int))) ∧ Below w.heap.size w w' := by
  have HI := Lib.hid I
  clear I
  go_enter Tryd.func31, Tryd.ntmps31
  go_wp2_with fail
  go_loopw [1, 5] (fun v i wr => ∃ k : Nat, k ≤ n ∧ i = .int .i64 k ∧ v = .int .i64 ((m : Int) + (k : Int)) ∧ Below w.heap.size w wr) (fun _ i _ => n - (intOf i).toNat)
  case atStart => exact ⟨0, by omega, rfl, by simp, Below.refl _ _⟩
  case round =>
    obtain ⟨k, hk, rfl, rfl, hb⟩ := hrel
    by_cases hlt : k < n
    · have c0 := Ncell (HI.out k hlt) hb
      go_wp2_with fail
      all_goals go_roundw
      all_goals (first | (case rel => exact ⟨k + 1, by omega, by go_num, by go_num, hb⟩) | skip)
      all_goals (simp [intOf]; omega)
    · obtain rfl : k = n := by omega
      go_wp2_with fail
      go_ret
      exact ⟨rfl, hb⟩
theorem Nmark_any {lo hi : Nat} (n : Nat) (hn : n ≤ 2 ^ 40) (m : Nat) (hm : m ≤ 2 ^ 41) (p : Option Addr) (c : Nat) (w : World) (H : NW lo hi w p n) :
    Calls Tryd.prog 30 #[.slice p n c, .int .i64 m] w fun e w' => e = .returned (.int .i64 ((m + n : Nat) : Int)) ∧ NMarks lo hi w w' ∧ NV lo hi w' p n (fun i => (m : Int) + (i : Int)) := by
  rcases H with rfl | ⟨b, o, cs, rfl, h1, h2, h3, B⟩
  · refine (Nmark_nil p c m w).mono ?_
    rintro e w' ⟨rfl, rfl⟩
    exact ⟨by simp, .inl rfl, .inl rfl⟩
  · refine (Nmark_some n hn m hm b o c cs h3 w B).mono ?_
    rintro e w' ⟨rfl, hg, hs, hI, cs', _, B'⟩
    exact ⟨by rw [Int.natCast_add], .inr ⟨b, h1, h2, hg, hs⟩, .inr ⟨b, o, rfl, h1, h2, hI⟩⟩
theorem Nheld_any {lo hi : Nat} (n : Nat) (hn : n ≤ 2 ^ 40) (m : Nat) (hm : m ≤ 2 ^ 41) (p : Option Addr) (c : Nat) (w : World) (H : NV lo hi w p n (fun i => (m : Int) + (i : Int))) :
    Calls Tryd.prog 31 #[.slice p n c, .int .i64 m] w fun e w' => e = .returned (.int .i64 ((m + n : Nat) : Int)) ∧ Below w.heap.size w w' := by
  rcases H with rfl | ⟨b, o, rfl, _, _, I⟩
  · refine (Nheld_nil p c m w).mono ?_
    rintro e w' ⟨rfl, rfl⟩
    exact ⟨by simp, Below.refl _ _⟩
  · refine (Nheld_some n hn m hm b o c w I).mono ?_
    rintro e w' ⟨rfl, hb⟩
    exact ⟨by rw [Int.natCast_add], hb⟩
/-- What append leaves, read and written. -/
theorem Nown {lo : Nat} {w : World} {v : Value} {l : List Int} {n : Nat} (hn : l.length = n) (h : w.ownsRow lo 2 1 v n (l.map (Value.int .i64))) : ∃ p c, v = .slice p n c ∧ NV lo w.heap.size w p n (fun i => l.getD i 0) ∧ NW lo w.heap.size w p n := by
  obtain ⟨_, h | ⟨b, cap, cs, rfl, hb, hB, h1, h2, h3, h4⟩⟩ := h
  · obtain ⟨rfl, h0⟩ := h
    exact ⟨none, 0, by rw [h0], .inl h0, .inl h0⟩
  · rw [Nat.mul_one] at h3 h4
    have hlt := (show Blk w b cs _ from hB).lt
    refine ⟨_, cap, rfl, .inr ⟨b, 0, rfl, hb, hlt, fun i hi => ?_⟩, .inr ⟨b, 0, cs, rfl, hb, hlt, by omega, hB⟩⟩
    refine (show Blk w b cs _ from hB).cell ?_
    rw [Nat.zero_add]
    have h5 : (cs.toList.take n)[i]? = (l.map (Value.int .i64))[i]? := by rw [h4]
    rw [List.getElem?_take, if_pos hi, Array.getElem?_toList, List.getElem?_map, List.getElem?_eq_getElem (show i < l.length by omega)] at h5
    rw [h5]
    show some (Value.int .i64 l[i]) = some (Value.int .i64 (l.getD i 0))
    rw [List.getD_eq_getElem?_getD, List.getElem?_eq_getElem (show i < l.length by omega)]; rfl
theorem Nnews {w : World} {b o n : Nat} {g : Nat → Int} (I : InI w b o n g) : ∀ j u, ((nums g n).map (Value.int .i64))[j]? = some u → w.cell? ((⟨b, o, none⟩ : Addr).add j) = some u := by
  intro j u hj
  have hjn : j < n := by
    have := (List.getElem?_eq_some_iff.1 hj).1
    simpa [nums] using this
  rw [List.getElem?_map, List.getElem?_eq_getElem (by rw [nums_length]; exact hjn)] at hj
  have e : u = .int .i64 (g j) := by
    have := Option.some.inj hj
    rw [← this]; simp [nums]
  rw [Addr.add_lit, e]; exact I j hjn
theorem None (l : List Int) : ∀ u ∈ l.map (Value.int .i64), u.oneCell' = true := by
  intro u hu; simp at hu; obtain ⟨a, _, rfl⟩ := hu; rfl
theorem Ninfo : (Tryd.prog.info? 2).map (fun i => (i.zero, i.size, i.bytes)) = some (some (.int .i64 0), 1, 8) := by kernel_rfl
end Go.Proofs.YtaioflkonpommaaDoor
