/-
  The first numbers of a function, as a list.
  Slices of int64: opened, copied by the laws, compared.
  Lists of numbers that calls make: where they lie, how they are marked, held and compared.
  Lists of structs of integers that calls make: where they lie, how they are marked and held.
  Lists of flocks that calls make: the laws' copies, comparison, marks.
  Lists of structs of integers that append made: their memory is the call's own.
  slices.Clone of flocks.
  Rows of structs of integers as lists; what an append to a boxed slice leaves of other blocks.
-/
import Derived.Test.YtaioflkonpommaaDoorCoreA
import Derived.Test.YtaioflkonpommaaDoorCoreB
import Derived.Test.YtaioflkonpommaaDoorFlkM
import Derived.Laws.AppendOwn
import Derived.OpenShut
import Derived.Deep.Slices
import Derived.Deep.DeepCutAuto
import Derived.BigRegion
import Derived.RangeFuncNested
import Derived.RangeFuncOwn
import Derived.Deep.Onto
import Derived.Lib.Hide
import Derived.Lib.SliceRun
import Derived.RangeFuncBox
namespace Go.Proofs.YtaioflkonpommaaDoor
section
open Go Go.RowKit

def nums (g : Nat → Int) (n : Nat) : List Int := (List.range n).map g
theorem nums_length (g : Nat → Int) (n : Nat) : (nums g n).length = n := by simp [nums]
theorem nums_getD (g : Nat → Int) (n i : Nat) (hi : i < n) : (nums g n).getD i 0 = g i := by simp [nums, List.getD, List.getElem?_range hi]
theorem nums_append (g h : Nat → Int) (n m : Nat) : nums g n ++ nums h m = nums (fun i => if i < n then g i else h (i - n)) (n + m) := by
  apply List.ext_getElem?
  intro i
  by_cases hi : i < n + m
  · rw [List.getElem?_eq_getElem (show i < (nums (fun i => if i < n then g i else h (i - n)) (n + m)).length by rw [nums_length]; exact hi)]
    by_cases h1 : i < n
    · rw [List.getElem?_append_left (by rw [nums_length]; exact h1), List.getElem?_eq_getElem (by rw [nums_length]; exact h1)]
      simp [nums, h1]
    · rw [List.getElem?_append_right (by rw [nums_length]; omega), nums_length, List.getElem?_eq_getElem (by rw [nums_length]; omega)]
      simp [nums, h1]
  · rw [List.getElem?_eq_none (by rw [List.length_append, nums_length, nums_length]; omega), List.getElem?_eq_none (by rw [nums_length]; omega)]
/-- Behind an append to a row of the call's own. -/
theorem below_own {n0 : Nat} {a wr w1 : World} {v : Value} {xs : List Value} {e : TypeId} {sz n : Nat} (hb : Below n0 a wr) (hs : n0 ≤ wr.heap.size) (hown : wr.ownsRow n0 e sz v n xs) (hgrow : wr.grownBy w1 v.ownBlock) : Below n0 a w1 :=
  hb.grown hgrow hs (fun j hj => (hown.lt j hj).1)
theorem grown_le {wr w1 : World} {row : Option Nat} (h : wr.grownBy w1 row) : wr.heap.size ≤ w1.heap.size := h.size
end
section
open Go Go.RowKit Go.WideShapes Go.ChangeShapes Go.Deep

/-- n numbers in a block, from a place on. -/
def InI (w : World) (b o n : Nat) (g : Nat → Int) : Prop := ∀ i, i < n → w.cell? ⟨b, o + i, none⟩ = some (.int .i64 (g i))
theorem InI.later {w w' : World} {b o n : Nat} {g : Nat → Int} (h : InI w b o n g) (hb : Below w.heap.size w w') : InI w' b o n g := fun i hi => by
  have hc := h i hi
  have hlt := World.block_lt_of_cell? _ _ hc
  rw [hb.cell hlt]; exact hc
/-- What a slice argument of numbers reads. -/
def InJ (w : World) (p : Option Addr) (n : Nat) (g : Nat → Int) : Prop := n = 0 ∨ ∃ b o, p = some ⟨b, o, none⟩ ∧ InI w b o n g
theorem InJ.later {w w' : World} {p : Option Addr} {n : Nat} {g : Nat → Int} (h : InJ w p n g) (hb : Below w.heap.size w w') : InJ w' p n g := by
  rcases h with h | ⟨b, o, e, J⟩
  · exact .inl h
  · exact .inr ⟨b, o, e, J.later hb⟩
theorem Blk.inI {w : World} {b n : Nat} {g : Nat → Int} {t : TypeId} (h : Blk w b (acells .i64 n g) t) : InI w b 0 n g := fun i hi => by
  rw [Nat.zero_add]; exact h.cell (acells_get .i64 n g i hi)
def Wf64 (n : Nat) (g : Nat → Int) : Prop := ∀ i, i < n → -9223372036854775808 ≤ g i ∧ g i ≤ 9223372036854775807
theorem open_nums {H : Type} {enc : TypeId × Value → H} {P : Program} {w : World} {b0 base : Nat} {r : Reach} {spare : Nat → Bool} {held : Bool} {t e : TypeId} {v : Value} {d : DataW H} {pl : List MemPlace}
    (ht : P.underlying t = some (.slice e)) (he : P.underlying e = some (.int .i64)) (hC : P.cellsOf e = 1)
    (hv : Value.okWide P w r b0 t v) (h : DataW.Trod enc P w base spare held t v d pl) :
    ∃ (p : Option Addr) (n c : Nat) (g : Nat → Int), v = .slice p n c ∧ n ≤ maxLen ∧ InJ w p n g ∧ Wf64 n g := by
  obtain ⟨a, len, cap, rfl⟩ := okWide_slice ht hv
  obtain ⟨fuel, hfu⟩ := h
  have hfu' : DataW.trod enc P w base spare held fuel t [.slice a len cap] = some (d, pl) := hfu
  rcases open_slice ht hfu' with ⟨h0, _⟩ | ⟨a', len', cap', m, n', D, Pl, hcs, _, hl, hm, hmm, _, hi⟩
  · simp only [List.cons.injEq, Value.slice.injEq, and_true] at h0
    obtain ⟨rfl, rfl, rfl⟩ := h0
    exact ⟨_, _, _, fun _ => 0, rfl, Nat.zero_le _, .inl rfl, fun i hi => absurd hi (by omega)⟩
  · simp only [List.cons.injEq, Value.slice.injEq, and_true] at hcs
    obtain ⟨rfl, rfl, rfl⟩ := hcs
    have hlm : len ≤ m := by rw [hmm]; split <;> omega
    have key : ∀ i, ∃ k : Int, i < len → w.cell? ((a'.add (i * 1)).add 0) = some (.int .i64 k) ∧ (Lit.int .i64 k).wf = true := fun i => by
      by_cases hij : i < len
      · obtain ⟨cs', hc, htr⟩ := hi i (by omega)
        rw [hC] at hc
        obtain ⟨_, hcl, hat⟩ := World.cells?_some hc
        obtain ⟨k', e1, e2, e3⟩ := DataW.trod_int he htr
        subst e1
        exact ⟨k', fun _ => ⟨by rw [hat 0 (by omega)]; rfl, by first | exact e3.1 | exact e3⟩⟩
      · exact ⟨0, fun h1 => absurd h1 hij⟩
    obtain ⟨g, hg⟩ : ∃ g : Nat → Int, ∀ i, i < len → w.cell? ((a'.add (i * 1)).add 0) = some (.int .i64 (g i)) ∧ (Lit.int .i64 (g i)).wf = true := ⟨fun i => Classical.choose (key i), fun i => Classical.choose_spec (key i)⟩
    clear key
    refine ⟨_, _, _, g, rfl, by omega, ?_, fun i hi => bounds_i64 (hg i hi).2⟩
    by_cases hz : len = 0
    · exact .inl hz
    · obtain ⟨b, o, spot⟩ := a'
      have h00 := (hg 0 (by omega)).1
      have hspot : spot = none := by simpa [Addr.add] using World.cell?_spot h00
      subst hspot
      refine .inr ⟨b, o, rfl, fun i hi => ?_⟩
      have h := (hg i hi).1
      rw [Addr.add_mid, Addr.add_mid, Nat.mul_one, Nat.add_zero] at h
      exact h
theorem scells_nums (n : Nat) (g : Nat → Int) : scells [.i64] n (fun i _ => g i) = acells .i64 n g := by
  apply Array.ext_getElem?
  intro i
  by_cases hi : i < n
  · have h := scells_get [.i64] n (fun i _ => g i) i 0 hi (by decide)
    simp only [List.length_cons, List.length_nil, Nat.zero_add, Nat.mul_one, Nat.add_zero] at h
    rw [h, acells_get .i64 n g i hi]; rfl
  · rw [Array.getElem?_eq_none (by simp [scells_size]; omega), Array.getElem?_eq_none (by rw [acells_size]; omega)]
set_option maxRecDepth 100000 in
set_option maxHeartbeats 800000 in
theorem eqInt64S_same (n : Nat) (hn : n ≤ 2 ^ 40) (g : Nat → Int) (b d c e : Nat) (w : World) (I1 : InI w b 0 n g) (I2 : InI w d 0 n g) :
    Calls Tryd.prog 29 #[.slice (some ⟨b, 0, none⟩) n c, .slice (some ⟨d, 0, none⟩) n e] w fun e w' => e = .returned (.bool true) ∧ Below w.heap.size w w' := by
  have H1 := Lib.hid I1
  have H2 := Lib.hid I2
  clear I1 I2
  go_enter Tryd.func29, Tryd.ntmps29
  go_wp2_with fail
  go_loopw [5] (fun i wr => ∃ k : Nat, k ≤ n ∧ i = .int .i64 k ∧ Below w.heap.size w wr) (fun i _ => n - (intOf i).toNat)
  case atStart => exact ⟨0, by omega, rfl, Below.refl _ _⟩
  case round =>
    obtain ⟨k, hk, rfl, hb⟩ := hrel
    by_cases hlt : k < n
    · have c0 := (H1.out.later hb) k hlt
      have d0 := (H2.out.later hb) k hlt
      rw [Nat.zero_add] at c0 d0
      go_wp2_with fail
      go_region
      all_goals go_wp2_with fail
      all_goals go_roundw
      all_goals (first | (case rel => exact ⟨k + 1, by omega, by go_num, hb.drew⟩) | skip)
      all_goals (simp [intOf]; omega)
    · obtain rfl : k = n := by omega
      go_wp2_with fail
      go_ret
      exact ⟨rfl, hb⟩
end
section
open Go Go.RowKit

theorem Ncell {w w' : World} {a : Addr} {v : Value} (h : w.cell? a = some v) (hb : Below w.heap.size w w') : w'.cell? a = some v := by
  rw [hb.cell (World.block_lt_of_cell? _ _ h)]; exact h
/-- What has turned since: nothing, or one block among those from lo to hi. -/
def NMarks (lo hi : Nat) (w w' : World) : Prop := w' = w ∨ ∃ b, lo ≤ b ∧ b < hi ∧ w.grownBy w' (some b) ∧ w'.heap.size = w.heap.size
theorem NMarks.size {lo hi : Nat} {w w' : World} (h : NMarks lo hi w w') : w'.heap.size = w.heap.size := by
  rcases h with rfl | ⟨_, _, _, _, h⟩
  · rfl
  · exact h
/-- n numbers of a slice that lie in a block from lo to hi. -/
def NV (lo hi : Nat) (w : World) (p : Option Addr) (n : Nat) (g : Nat → Int) : Prop := n = 0 ∨ ∃ b o, p = some ⟨b, o, none⟩ ∧ lo ≤ b ∧ b < hi ∧ ∀ i, i < n → w.cell? ⟨b, o + i, none⟩ = some (.int .i64 (g i))
/-- The same, to be written. -/
def NW (lo hi : Nat) (w : World) (p : Option Addr) (n : Nat) : Prop := n = 0 ∨ ∃ b o cs, p = some ⟨b, o, none⟩ ∧ lo ≤ b ∧ b < hi ∧ o + n ≤ cs.size ∧ Blk w b cs 2
theorem NV.later {lo hi : Nat} {w w' : World} {p : Option Addr} {n : Nat} {g : Nat → Int} (h : NV lo hi w p n g) (hb : Below w.heap.size w w') : NV lo hi w' p n g :=
  h.imp id fun ⟨b, o, e, h1, h2, h3⟩ => ⟨b, o, e, h1, h2, fun i hi => Ncell (h3 i hi) hb⟩
theorem NW.later {lo hi : Nat} {w w' : World} {p : Option Addr} {n : Nat} (h : NW lo hi w p n) (hb : Below w.heap.size w w') : NW lo hi w' p n :=
  h.imp id fun ⟨b, o, cs, e, h1, h2, h3, h4⟩ => ⟨b, o, cs, e, h1, h2, h3, h4.later hb⟩
theorem NV.congr {lo hi : Nat} {w : World} {p : Option Addr} {n : Nat} {g g' : Nat → Int} (h : NV lo hi w p n g) (e : ∀ i, i < n → g i = g' i) : NV lo hi w p n g' :=
  h.imp id fun ⟨b, o, e1, h1, h2, h3⟩ => ⟨b, o, e1, h1, h2, fun i hi => by rw [← e i hi]; exact h3 i hi⟩
theorem NV.mono {lo hi lo' hi' : Nat} {w : World} {p : Option Addr} {n : Nat} {g : Nat → Int} (h : NV lo hi w p n g) (h1 : lo' ≤ lo) (h2 : hi ≤ hi') : NV lo' hi' w p n g :=
  h.imp id fun ⟨b, o, e, a1, a2, a3⟩ => ⟨b, o, e, by omega, by omega, a3⟩
theorem NW.mono {lo hi lo' hi' : Nat} {w : World} {p : Option Addr} {n : Nat} (h : NW lo hi w p n) (h1 : lo' ≤ lo) (h2 : hi ≤ hi') : NW lo' hi' w p n :=
  h.imp id fun ⟨b, o, cs, e, a1, a2, a3, a4⟩ => ⟨b, o, cs, e, by omega, by omega, a3, a4⟩
theorem NV.j {lo hi : Nat} {w : World} {p : Option Addr} {n : Nat} {g : Nat → Int} (h : NV lo hi w p n g) : InJ w p n g :=
  h.imp id fun ⟨b, o, e, _, _, h3⟩ => ⟨b, o, e, h3⟩
theorem NV.marked {lo hi lo2 hi2 : Nat} {w w' : World} {p : Option Addr} {n : Nat} {g : Nat → Int} (h : NV lo hi w p n g) (hm : NMarks lo2 hi2 w w') (hd : hi ≤ lo2 ∨ hi2 ≤ lo) : NV lo hi w' p n g := by
  rcases hm with rfl | ⟨b2, k1, k2, hg, _⟩
  · exact h
  · exact h.imp id fun ⟨b, o, e, h1, h2, h3⟩ => ⟨b, o, e, h1, h2, fun i hi => hg.cell (h3 i hi) (fun e => by
      have e : b = b2 := by simpa using e
      omega)⟩
theorem NW.marked {lo hi lo2 hi2 : Nat} {w w' : World} {p : Option Addr} {n : Nat} (h : NW lo hi w p n) (hm : NMarks lo2 hi2 w w') (hd : hi ≤ lo2 ∨ hi2 ≤ lo) : NW lo hi w' p n := by
  rcases hm with rfl | ⟨b2, k1, k2, hg, _⟩
  · exact h
  · refine h.imp id fun ⟨b, o, cs, e, h1, h2, h3, h4⟩ => ⟨b, o, cs, e, h1, h2, h3, ?_⟩
    have h5 : w'.heap[b]? = w.heap[b]? := hg.block b h4.lt (fun e => by have := Option.some.inj e; omega)
    unfold Blk; rw [h5]; exact h4
theorem NMem.marked {w0 w w' : World} {L : List Ent} {lo hi : Nat} (H : Mem w0 w L) (hm : NMarks lo hi w w') (h0 : w0.heap.size ≤ lo) (hl : ∀ (i : Nat) (e : Ent), L[i]? = some e → e.b < lo ∨ hi ≤ e.b) : Mem w0 w' L := by
  rcases hm with rfl | ⟨b2, k1, k2, hg, _⟩
  · exact H
  · refine ⟨H.below.grown hg H.below.size (fun k e => by have := Option.some.inj e; omega), fun i e h => ⟨(H.blk i e h).1, ?_⟩, H.apart⟩
    have h4 := (H.blk i e h).2
    have hne := hl i e h
    have h5 : w'.heap[e.b]? = w.heap[e.b]? := hg.block e.b h4.lt (fun e => by have := Option.some.inj e; omega)
    unfold Blk; rw [h5]; exact h4
theorem NBelow.marked {n0 : Nat} {w0 w w' : World} {lo hi : Nat} (H : Below n0 w0 w) (hm : NMarks lo hi w w') (h1 : n0 ≤ lo) (h2 : lo ≤ w.heap.size) : Below n0 w0 w' := by
  rcases hm with rfl | ⟨b2, k1, k2, hg, hs⟩
  · exact H
  · exact H.grown hg (by omega) (fun k e => by have := Option.some.inj e; omega)
theorem Ngrown_cell (W : World) (b i : Nat) (v : Value) : W.grownBy (W.setCell ⟨b, i, none⟩ v) (some b) :=
  ⟨rfl, rfl, rfl, (KeepsWalks.setCell W _ v).size, fun k _ hk => Below.heap_setCell _ _ _ k (fun e => hk (by rw [e]))⟩
theorem Ngrown_trans {A B C : World} {row : Option Nat} (h1 : A.grownBy B row) (h2 : B.grownBy C row) : A.grownBy C row :=
  ⟨h2.os.trans h1.os, h2.tape.trans h1.tape, h2.output.trans h1.output, Nat.le_trans h1.size h2.size, fun k hk hne => (h2.block k (Nat.lt_of_lt_of_le hk h1.size) hne).trans (h1.block k hk hne)⟩
set_option maxHeartbeats 1000000 in
theorem Neq_nil (p p2 : Option Addr) (c e : Nat) (w : World) : Calls Tryd.prog 29 #[.slice p 0 c, .slice p2 0 e] w fun e w' => e = .returned (.bool true) ∧ Below w.heap.size w w' := by
  go_enter Tryd.func29, Tryd.ntmps29
  go_wp2_with fail
  refine wp_loop_rounds 1 ?_
  rw [rounds_succ]
  go_wp2_with fail
  go_ret
  exact ⟨rfl, Below.refl _ _⟩
set_option maxRecDepth 100000 in
set_option maxHeartbeats 1000000 in
theorem Neq_some (n : Nat) (hn : n ≤ 2 ^ 40) (g : Nat → Int) (b o d o2 c e : Nat) (w : World) (I1 : InI w b o n g) (I2 : InI w d o2 n g) :
    Calls Tryd.prog 29 #[.slice (some ⟨b, o, none⟩) n c, .slice (some ⟨d, o2, none⟩) n e] w fun e w' => e = .returned (.bool true) ∧ Below w.heap.size w w' := by
  have H1 := Lib.hid I1
  have H2 := Lib.hid I2
  clear I1 I2
  go_enter Tryd.func29, Tryd.ntmps29
  go_wp2_with fail
  go_loopw [5] (fun i wr => ∃ k : Nat, k ≤ n ∧ i = .int .i64 k ∧ Below w.heap.size w wr) (fun i _ => n - (intOf i).toNat)
  case atStart => exact ⟨0, by omega, rfl, Below.refl _ _⟩
  case round =>
    obtain ⟨k, hk, rfl, hb⟩ := hrel
    by_cases hlt : k < n
    · have c0 := (H1.out.later hb) k hlt
      have d0 := (H2.out.later hb) k hlt
      go_wp2_with fail
      go_region
      all_goals go_wp2_with fail
      all_goals go_roundw
      all_goals (first | (case rel => exact ⟨k + 1, by omega, by go_num, hb.drew⟩) | skip)
      all_goals (simp [intOf]; omega)
    · obtain rfl : k = n := by omega
      go_wp2_with fail
      go_ret
      exact ⟨rfl, hb⟩
theorem Neq_J (n : Nat) (hn : n ≤ 2 ^ 40) (g : Nat → Int) (p p2 : Option Addr) (c e : Nat) (w : World) (J1 : InJ w p n g) (J2 : InJ w p2 n g) :
    Calls Tryd.prog 29 #[.slice p n c, .slice p2 n e] w fun e w' => e = .returned (.bool true) ∧ Below w.heap.size w w' := by
  rcases J1 with rfl | ⟨b, o, rfl, I1⟩
  · exact Neq_nil p p2 c e w
  · rcases J2 with rfl | ⟨d, o2, rfl, I2⟩
    · exact Neq_nil _ p2 c e w
    · exact Neq_some n hn g b o d o2 c e w I1 I2
theorem Nmark_nil (p : Option Addr) (c : Nat) (m : Int) (w : World) : Calls Tryd.prog 30 #[.slice p 0 c, .int .i64 m] w fun e w' => e = .returned (.int .i64 m) ∧ w = w' := by
  go_enter Tryd.func30, Tryd.ntmps30
  go_wp2_with fail
  refine wp_loop_rounds 1 ?_
  rw [rounds_succ]
  go_wp2_with fail
  go_ret
  exact ⟨rfl, rfl⟩
theorem Nheld_nil (p : Option Addr) (c : Nat) (m : Int) (w : World) : Calls Tryd.prog 31 #[.slice p 0 c, .int .i64 m] w fun e w' => e = .returned (.int .i64 m) ∧ w = w' := by
  go_enter Tryd.func31, Tryd.ntmps31
  go_wp2_with fail
  refine wp_loop_rounds 1 ?_
  rw [rounds_succ]
  go_wp2_with fail
  go_ret
  exact ⟨rfl, rfl⟩
set_option maxHeartbeats 2000000 in
theorem Nmark_some (n : Nat) (hn : n ≤ 2 ^ 40) (m : Nat) (hm : m ≤ 2 ^ 41) (b o c : Nat) (cs : Array Value) (hcs : o + n ≤ cs.size) (w : World) (B : Blk w b cs 2) :
    Calls Tryd.prog 30 #[.slice (some ⟨b, o, none⟩) n c, .int .i64 m] w fun e w' => e = .returned (.int .i64 ((m : Int) + (n : Int))) ∧ w.grownBy w' (some b) ∧ w'.heap.size = w.heap.size ∧ (∀ i, i < n → w'.cell? ⟨b, o + i, none⟩ = some (.int .i64 ((m : Int) + (i : Int)))) ∧ ∃ cs' : Array Value, cs'.size = cs.size ∧ Blk w' b cs' 2 := by
  go_enter Tryd.func30, Tryd.ntmps30
  go_wp2_with fail
  go_loopw [1, 5] (fun v i wr => ∃ k : Nat, k ≤ n ∧ i = .int .i64 k ∧ v = .int .i64 ((m : Int) + (k : Int)) ∧ Hid (w.grownBy wr (some b)) ∧ Hid (wr.heap.size = w.heap.size) ∧ Hid (∀ i, i < k → wr.cell? ⟨b, o + i, none⟩ = some (.int .i64 ((m : Int) + (i : Int)))) ∧ Hid (∃ cs' : Array Value, cs'.size = cs.size ∧ Blk wr b cs' 2)) (fun _ i _ => n - (intOf i).toNat)
  case atStart => exact ⟨0, by omega, rfl, by simp, Lib.hid ⟨rfl, rfl, rfl, Nat.le_refl _, fun _ _ _ => rfl⟩, Lib.hid rfl, Lib.hid (fun i hi => by omega), Lib.hid ⟨cs, rfl, B⟩⟩
  case round =>
    obtain ⟨k, hk, rfl, rfl, hgr, hsz, hI, hB⟩ := hrel
    by_cases hlt : k < n
    · obtain ⟨cs', hc', B'⟩ := hB.out
      have c0 := B'.cell (i := o + k) (Array.getElem?_eq_getElem (show o + k < cs'.size by omega))
      have e0 := B'.free (o + k)
      go_wp2_with fail
      go_roundw
      case rel =>
        refine ⟨k + 1, by omega, by go_num, by go_num, Lib.hid (Ngrown_trans hgr.out (Ngrown_cell _ _ _ _)), Lib.hid (by rw [← hsz.out]; simp), Lib.hid (fun i hi => ?_), Lib.hid ⟨_, by simpa using hc', B'.set (o + k) _⟩⟩
        by_cases e : i = k
        · subst e
          refine (B'.set (o + i) _).cell ?_
          rw [Array.getElem?_setIfInBounds, if_pos rfl, if_pos (by omega)]
        · have h := hI.out i (by omega)
          rw [cell_of_row _ _ _ _ _ _ B'] at h
          refine (B'.set (o + k) _).cell ?_
          rw [Array.getElem?_setIfInBounds, if_neg (by omega)]
          exact h
      case measure => simp [intOf]; omega
    · obtain rfl : k = n := by omega
      go_wp2_with fail
      go_ret
      exact ⟨rfl, hgr.out, hsz.out, hI.out, hB.out⟩
set_option maxHeartbeats 2000000 in
theorem Nheld_some (n : Nat) (hn : n ≤ 2 ^ 40) (m : Nat) (hm : m ≤ 2 ^ 41) (b o c : Nat) (w : World) (I : ∀ i, i < n → w.cell? ⟨b, o + i, none⟩ = some (.int .i64 ((m : Int) + (i : Int)))) :
    Calls Tryd.prog 31 #[.slice (some ⟨b, o, none⟩) n c, .int .i64 m] w fun e w' => e = .returned (.int .i64 ((m : Int) + (n : Int))) ∧ Below w.heap.size w w' := by
  have HI := Lib.hid I
  clear I
  go_enter Tryd.func31, Tryd.ntmps31
  go_wp2_with fail
  go_loopw [1, 5] (fun v i wr => ∃ k : Nat, k ≤ n ∧ i = .int .i64 k ∧ v = .int .i64 ((m : Int) + (k : Int)) ∧ Below w.heap.size w wr) (fun _ i _ => n - (intOf i).toNat)
  case atStart => exact ⟨0, by omega, rfl, by simp, Below.refl _ _⟩
  case round =>
    obtain ⟨k, hk, rfl, rfl, hb⟩ := hrel
    by_cases hlt : k < n
    · have c0 := Ncell (HI.out k hlt) hb
      go_wp2_with fail
      all_goals go_roundw
      all_goals (first | (case rel => exact ⟨k + 1, by omega, by go_num, by go_num, hb⟩) | skip)
      all_goals (simp [intOf]; omega)
    · obtain rfl : k = n := by omega
      go_wp2_with fail
      go_ret
      exact ⟨rfl, hb⟩
theorem Nmark_any {lo hi : Nat} (n : Nat) (hn : n ≤ 2 ^ 40) (m : Nat) (hm : m ≤ 2 ^ 41) (p : Option Addr) (c : Nat) (w : World) (H : NW lo hi w p n) :
    Calls Tryd.prog 30 #[.slice p n c, .int .i64 m] w fun e w' => e = .returned (.int .i64 ((m + n : Nat) : Int)) ∧ NMarks lo hi w w' ∧ NV lo hi w' p n (fun i => (m : Int) + (i : Int)) := by
  rcases H with rfl | ⟨b, o, cs, rfl, h1, h2, h3, B⟩
  · refine (Nmark_nil p c m w).mono ?_
    rintro e w' ⟨rfl, rfl⟩
    exact ⟨by simp, .inl rfl, .inl rfl⟩
  · refine (Nmark_some n hn m hm b o c cs h3 w B).mono ?_
    rintro e w' ⟨rfl, hg, hs, hI, cs', _, B'⟩
    exact ⟨by rw [Int.natCast_add], .inr ⟨b, h1, h2, hg, hs⟩, .inr ⟨b, o, rfl, h1, h2, hI⟩⟩
theorem Nheld_any {lo hi : Nat} (n : Nat) (hn : n ≤ 2 ^ 40) (m : Nat) (hm : m ≤ 2 ^ 41) (p : Option Addr) (c : Nat) (w : World) (H : NV lo hi w p n (fun i => (m : Int) + (i : Int))) :
    Calls Tryd.prog 31 #[.slice p n c, .int .i64 m] w fun e w' => e = .returned (.int .i64 ((m + n : Nat) : Int)) ∧ Below w.heap.size w w' := by
  rcases H with rfl | ⟨b, o, rfl, _, _, I⟩
  · refine (Nheld_nil p c m w).mono ?_
    rintro e w' ⟨rfl, rfl⟩
    exact ⟨by simp, Below.refl _ _⟩
  · refine (Nheld_some n hn m hm b o c w I).mono ?_
    rintro e w' ⟨rfl, hb⟩
    exact ⟨by rw [Int.natCast_add], hb⟩
/-- What append leaves, read and written. -/
theorem Nown {lo : Nat} {w : World} {v : Value} {l : List Int} {n : Nat} (hn : l.length = n) (h : w.ownsRow lo 2 1 v n (l.map (Value.int .i64))) : ∃ p c, v = .slice p n c ∧ NV lo w.heap.size w p n (fun i => l.getD i 0) ∧ NW lo w.heap.size w p n := by
  obtain ⟨_, h | ⟨b, cap, cs, rfl, hb, hB, h1, h2, h3, h4⟩⟩ := h
  · obtain ⟨rfl, h0⟩ := h
    exact ⟨none, 0, by rw [h0], .inl h0, .inl h0⟩
  · rw [Nat.mul_one] at h3 h4
    have hlt := (show Blk w b cs _ from hB).lt
    refine ⟨_, cap, rfl, .inr ⟨b, 0, rfl, hb, hlt, fun i hi => ?_⟩, .inr ⟨b, 0, cs, rfl, hb, hlt, by omega, hB⟩⟩
    refine (show Blk w b cs _ from hB).cell ?_
    rw [Nat.zero_add]
    have h5 : (cs.toList.take n)[i]? = (l.map (Value.int .i64))[i]? := by rw [h4]
    rw [List.getElem?_take, if_pos hi, Array.getElem?_toList, List.getElem?_map, List.getElem?_eq_getElem (show i < l.length by omega)] at h5
    rw [h5]
    show some (Value.int .i64 l[i]) = some (Value.int .i64 (l.getD i 0))
    rw [List.getD_eq_getElem?_getD, List.getElem?_eq_getElem (show i < l.length by omega)]; rfl
theorem Nnews {w : World} {b o n : Nat} {g : Nat → Int} (I : InI w b o n g) : ∀ j u, ((nums g n).map (Value.int .i64))[j]? = some u → w.cell? ((⟨b, o, none⟩ : Addr).add j) = some u := by
  intro j u hj
  have hjn : j < n := by
    have := (List.getElem?_eq_some_iff.1 hj).1
    simpa [nums] using this
  rw [List.getElem?_map, List.getElem?_eq_getElem (by rw [nums_length]; exact hjn)] at hj
  have e : u = .int .i64 (g j) := by
    have := Option.some.inj hj
    rw [← this]; simp [nums]
  rw [Addr.add_lit, e]; exact I j hjn
theorem None (l : List Int) : ∀ u ∈ l.map (Value.int .i64), u.oneCell' = true := by
  intro u hu; simp at hu; obtain ⟨a, _, rfl⟩ := hu; rfl
theorem Ninfo : (Tryd.prog.info? 2).map (fun i => (i.zero, i.size, i.bytes)) = some (some (.int .i64 0), 1, 8) := by kernel_rfl
end
section
open Go Go.RowKit

/-- n structs of a slice that lie in a block from lo to hi. -/
def SV (ks : List IntKind) (lo hi : Nat) (w : World) (p : Option Addr) (n : Nat) (F : Nat → Nat → Int) : Prop := n = 0 ∨ ∃ b o, p = some ⟨b, o, none⟩ ∧ lo ≤ b ∧ b < hi ∧ InS w b o n ks F
/-- The same, to be written. -/
def SW (ks : List IntKind) (t : TypeId) (lo hi : Nat) (w : World) (p : Option Addr) (n : Nat) : Prop := n = 0 ∨ ∃ b o cs, p = some ⟨b, o, none⟩ ∧ lo ≤ b ∧ b < hi ∧ o + n * ks.length ≤ cs.size ∧ Blk w b cs t
theorem SV.later {ks : List IntKind} {lo hi : Nat} {w w' : World} {p : Option Addr} {n : Nat} {F : Nat → Nat → Int} (h : SV ks lo hi w p n F) (hb : Below w.heap.size w w') : SV ks lo hi w' p n F :=
  h.imp id fun ⟨b, o, e, h1, h2, h3⟩ => ⟨b, o, e, h1, h2, h3.later hb⟩
theorem SW.later {ks : List IntKind} {t : TypeId} {lo hi : Nat} {w w' : World} {p : Option Addr} {n : Nat} (h : SW ks t lo hi w p n) (hb : Below w.heap.size w w') : SW ks t lo hi w' p n :=
  h.imp id fun ⟨b, o, cs, e, h1, h2, h3, h4⟩ => ⟨b, o, cs, e, h1, h2, h3, h4.later hb⟩
theorem InS.congr {ks : List IntKind} {w : World} {b o n : Nat} {F G : Nat → Nat → Int} (h : InS w b o n ks F) (e : ∀ i, i < n → ∀ j, j < ks.length → F i j = G i j) : InS w b o n ks G := fun i hi => by
  have hrow : srow ks F i = srow ks G i := by
    apply Array.ext_getElem?
    intro j
    by_cases hj : j < ks.length
    · rw [srow_get ks F i j hj, srow_get ks G i j hj]
      show some (sget ks F i j) = some (sget ks G i j)
      unfold sget; rw [e i hi j hj]
    · rw [Array.getElem?_eq_none (by rw [srow_size]; omega), Array.getElem?_eq_none (by rw [srow_size]; omega)]
  rw [← hrow]; exact h i hi
theorem SV.congr {ks : List IntKind} {lo hi : Nat} {w : World} {p : Option Addr} {n : Nat} {F G : Nat → Nat → Int} (h : SV ks lo hi w p n F) (e : ∀ i, i < n → ∀ j, j < ks.length → F i j = G i j) : SV ks lo hi w p n G :=
  h.imp id fun ⟨b, o, e1, h1, h2, h3⟩ => ⟨b, o, e1, h1, h2, h3.congr e⟩
theorem SV.mono {ks : List IntKind} {lo hi lo' hi' : Nat} {w : World} {p : Option Addr} {n : Nat} {F : Nat → Nat → Int} (h : SV ks lo hi w p n F) (h1 : lo' ≤ lo) (h2 : hi ≤ hi') : SV ks lo' hi' w p n F :=
  h.imp id fun ⟨b, o, e, a1, a2, a3⟩ => ⟨b, o, e, by omega, by omega, a3⟩
theorem SW.mono {ks : List IntKind} {t : TypeId} {lo hi lo' hi' : Nat} {w : World} {p : Option Addr} {n : Nat} (h : SW ks t lo hi w p n) (h1 : lo' ≤ lo) (h2 : hi ≤ hi') : SW ks t lo' hi' w p n :=
  h.imp id fun ⟨b, o, cs, e, a1, a2, a3, a4⟩ => ⟨b, o, cs, e, by omega, by omega, a3, a4⟩
theorem SV.j {ks : List IntKind} {lo hi : Nat} {w : World} {p : Option Addr} {n : Nat} {F : Nat → Nat → Int} (h : SV ks lo hi w p n F) : InA ks w p n F :=
  h.imp id fun ⟨b, o, e, _, _, h3⟩ => ⟨b, o, e, h3⟩
theorem InS.marked {ks : List IntKind} {w w' : World} {b o n b2 : Nat} {F : Nat → Nat → Int} (h : InS w b o n ks F) (hg : w.grownBy w' (some b2)) (hne : b ≠ b2) : InS w' b o n ks F := fun i hi j v hj => by
  have := h i hi j v hj
  have h4 := hg.cell this (by simpa using hne)
  exact h4
theorem SV.marked {ks : List IntKind} {lo hi lo2 hi2 : Nat} {w w' : World} {p : Option Addr} {n : Nat} {F : Nat → Nat → Int} (h : SV ks lo hi w p n F) (hm : NMarks lo2 hi2 w w') (hd : hi ≤ lo2 ∨ hi2 ≤ lo) : SV ks lo hi w' p n F := by
  rcases hm with rfl | ⟨b2, k1, k2, hg, _⟩
  · exact h
  · exact h.imp id fun ⟨b, o, e, h1, h2, h3⟩ => ⟨b, o, e, h1, h2, h3.marked hg (by omega)⟩
theorem SW.marked {ks : List IntKind} {t : TypeId} {lo hi lo2 hi2 : Nat} {w w' : World} {p : Option Addr} {n : Nat} (h : SW ks t lo hi w p n) (hm : NMarks lo2 hi2 w w') (hd : hi ≤ lo2 ∨ hi2 ≤ lo) : SW ks t lo hi w' p n := by
  rcases hm with rfl | ⟨b2, k1, k2, hg, _⟩
  · exact h
  · refine h.imp id fun ⟨b, o, cs, e, h1, h2, h3, h4⟩ => ⟨b, o, cs, e, h1, h2, h3, ?_⟩
    have h5 : w'.heap[b]? = w.heap[b]? := hg.block b h4.lt (fun e => by have := Option.some.inj e; omega)
    unfold Blk; rw [h5]; exact h4
end
section
open Go Go.RowKit

abbrev FMarks := NMarks
theorem FMem.marked {w0 w w' : World} {L : List Ent} {lo hi : Nat} (H : Mem w0 w L) (hm : NMarks lo hi w w') (h0 : w0.heap.size ≤ lo) (hl : ∀ (i : Nat) (e : Ent), L[i]? = some e → e.b < lo ∨ hi ≤ e.b) : Mem w0 w' L := NMem.marked H hm h0 hl
theorem FBelow.marked {n0 : Nat} {w0 w w' : World} {lo hi : Nat} (H : Below n0 w0 w) (hm : NMarks lo hi w w') (h1 : n0 ≤ lo) (h2 : lo ≤ w.heap.size) : Below n0 w0 w' := NBelow.marked H hm h1 h2
/-- The laws' copy, with where it lies. -/
theorem Fto_any (n : Nat) (hn : n ≤ 2 ^ 40) (F : Nat → Nat → Int) (p : Option Addr) (c : Nat) (w : World) (J : InA ksFlock w p n F) : Calls Tryd.prog 23 #[.slice p n c] w fun e w' => ∃ b', e = .returned (.slice (some ⟨b', 0, none⟩) n n) ∧ InS w' b' 0 n ksFlock F ∧ SV ksFlock w.heap.size w'.heap.size w' (some ⟨b', 0, none⟩) n F ∧ SW ksFlock 38 w.heap.size w'.heap.size w' (some ⟨b', 0, none⟩) n ∧ Below w.heap.size w w' := by
  have key : ∀ (e : Ending) (w' : World), (∃ b', e = .returned (.slice (some ⟨b', 0, none⟩) n n) ∧ w.heap.size ≤ b' ∧ Blk w' b' (scells ksFlock n F) 38 ∧ Below w.heap.size w w') → ∃ b', e = .returned (.slice (some ⟨b', 0, none⟩) n n) ∧ InS w' b' 0 n ksFlock F ∧ SV ksFlock w.heap.size w'.heap.size w' (some ⟨b', 0, none⟩) n F ∧ SW ksFlock 38 w.heap.size w'.heap.size w' (some ⟨b', 0, none⟩) n ∧ Below w.heap.size w w' := by
    rintro e w' ⟨b', rfl, hlo, hB, hb⟩
    exact ⟨b', rfl, hB.inS, .inr ⟨b', 0, rfl, hlo, hB.lt, hB.inS⟩, .inr ⟨b', 0, _, rfl, hlo, hB.lt, by rw [scells_size]; omega, hB⟩, hb⟩
  rcases J with rfl | ⟨b, o, rfl, J⟩
  · exact (toFlockS_nilA F p c w).mono key
  · exact (toFlockS_any n hn F b o c w J).mono key
set_option maxHeartbeats 1000000 in
theorem Feq_nil (p p2 : Option Addr) (c e : Nat) (w : World) : Calls Tryd.prog 25 #[.slice p 0 c, .slice p2 0 e] w fun e w' => e = .returned (.bool true) ∧ Below w.heap.size w w' := by
  go_enter Tryd.func25, Tryd.ntmps25
  go_wp2_with fail
  refine wp_loop_rounds 1 ?_
  rw [rounds_succ]
  go_wp2_with fail
  go_ret
  exact ⟨rfl, Below.refl _ _⟩
set_option maxRecDepth 100000 in
set_option maxHeartbeats 800000 in
theorem Feq_some (n : Nat) (hn : n ≤ 2 ^ 40) (F : Nat → Nat → Int) (b o d o2 c e : Nat) (w : World) (I1 : InS w b o n ksFlock F) (I2 : InS w d o2 n ksFlock F) :
    Calls Tryd.prog 25 #[.slice (some ⟨b, o, none⟩) n c, .slice (some ⟨d, o2, none⟩) n e] w fun e w' => e = .returned (.bool true) ∧ Below w.heap.size w w' := by
  have H1 := Lib.hid I1
  have H2 := Lib.hid I2
  clear I1 I2
  go_enter Tryd.func25, Tryd.ntmps25
  go_wp2_with fail
  go_loopw [5] (fun i wr => ∃ k : Nat, k ≤ n ∧ i = .int .i64 k ∧ Below w.heap.size w wr) (fun i _ => n - (intOf i).toNat)
  case atStart => exact ⟨0, by omega, rfl, Below.refl _ _⟩
  case round =>
    obtain ⟨k, hk, rfl, hb⟩ := hrel
    by_cases hlt : k < n
    · have g1 : Hid (∀ w', Below w.heap.size w w' → w'.rangeAt b (o + k * 6) (srow ksFlock F k).toList) := Lib.hid (fun w' hw' => InS.elem (ks := ksFlock) H1.out (by decide) hw' hlt)
      have g2 : Hid (∀ w', Below w.heap.size w w' → w'.rangeAt d (o2 + k * 6) (srow ksFlock F k).toList) := Lib.hid (fun w' hw' => InS.elem (ks := ksFlock) H2.out (by decide) hw' hlt)
      go_upto_region 6 with (fail)
      refine wp_region_rel (DL [dV (.slice (some ⟨b, o, none⟩) n c), dV (.int .i64 k), dV (.pointer (some ⟨b, o + k * 6, none⟩)), dV (.agg (srow ksFlock F k)), dV (.slice (some ⟨d, o2, none⟩) n e), dV (.int .i64 k), dV (.pointer (some ⟨d, o2 + k * 6, none⟩)), dV (.agg (srow ksFlock F k)), dV (.bool true), dV (.bool false)]) (fun w' => Below w.heap.size w w') (by kernel_rfl) (by kernel_rfl) (fun _ _ h h' => h.trans (h'.mono h.size))
        (stays_DL (fun d hd => by
          simp only [List.mem_cons, List.mem_nil_iff, or_false] at hd
          rcases hd with rfl | rfl | rfl | rfl | rfl | rfl | rfl | rfl | rfl | rfl <;> exact stay_V)) hb.drew ?_
      refine rel_val _ rfl rfl (fun _ _ => rfl) (fun x0 => ?_)
      simp only [Act.put, List.setIfInBounds_toArray, List.set_cons_zero, List.set_cons_succ]
      refine rel_val _ rfl rfl (fun _ _ => rfl) (fun x1 => ?_)
      simp only [Act.put, List.setIfInBounds_toArray, List.set_cons_zero, List.set_cons_succ]
      refine rel_index 51 38 _ _ rfl b o n c 6 k rfl rfl hlt Tryd.underlying51 (by kernel_rfl) rfl rfl (fun x2 => ?_)
      simp only [Act.put, List.setIfInBounds_toArray, List.set_cons_zero, List.set_cons_succ]
      refine rel_load 38 _ rfl b (o + k * 6) rfl (srow ksFlock F k) _ rfl rfl g1.out Tryd.underlying38 rfl (by rw [srow_size]; kernel_rfl) (fun x3 => ?_)
      simp only [Act.put, List.setIfInBounds_toArray, List.set_cons_zero, List.set_cons_succ]
      refine rel_val _ rfl rfl (fun _ _ => rfl) (fun x4 => ?_)
      simp only [Act.put, List.setIfInBounds_toArray, List.set_cons_zero, List.set_cons_succ]
      refine rel_val _ rfl rfl (fun _ _ => rfl) (fun x5 => ?_)
      simp only [Act.put, List.setIfInBounds_toArray, List.set_cons_zero, List.set_cons_succ]
      refine rel_index 51 38 _ _ rfl d o2 n e 6 k rfl rfl hlt Tryd.underlying51 (by kernel_rfl) rfl rfl (fun x6 => ?_)
      simp only [Act.put, List.setIfInBounds_toArray, List.set_cons_zero, List.set_cons_succ]
      refine rel_load 38 _ rfl d (o2 + k * 6) rfl (srow ksFlock F k) _ rfl rfl g2.out Tryd.underlying38 rfl (by rw [srow_size]; kernel_rfl) (fun x7 => ?_)
      simp only [Act.put, List.setIfInBounds_toArray, List.set_cons_zero, List.set_cons_succ]
      refine rel_call _ 56 #[.agg (srow ksFlock F k), .agg (srow ksFlock F k)] rfl rfl rfl rfl (enters_of Tryd.func56 (by kernel_rfl) rfl) (fun w' _ => eqFlock_same F k w') (fun x8 => ?_)
      simp only [Act.put, List.setIfInBounds_toArray, List.set_cons_zero, List.set_cons_succ]
      refine rel_val _ rfl rfl (fun _ _ => rfl) (fun x9 => ?_)
      simp only [Act.put, List.setIfInBounds_toArray, List.set_cons_zero, List.set_cons_succ]
      refine rel_nil (fun w' inv => ?_)
      have hb' := inv.cls
      clear inv
      go_wp2_with fail
      go_roundw
      case rel => exact ⟨k + 1, by omega, by go_num, hb'⟩
      case measure => simp [intOf]; omega
    · obtain rfl : k = n := by omega
      go_wp2_with fail
      go_ret
      exact ⟨rfl, hb⟩
theorem Feq_J (n : Nat) (hn : n ≤ 2 ^ 40) (F : Nat → Nat → Int) (p p2 : Option Addr) (c e : Nat) (w : World) (J1 : InA ksFlock w p n F) (J2 : InA ksFlock w p2 n F) :
    Calls Tryd.prog 25 #[.slice p n c, .slice p2 n e] w fun e w' => e = .returned (.bool true) ∧ Below w.heap.size w w' := by
  rcases J1 with rfl | ⟨b, o, rfl, I1⟩
  · exact Feq_nil p p2 c e w
  · rcases J2 with rfl | ⟨d, o2, rfl, I2⟩
    · exact Feq_nil _ p2 c e w
    · exact Feq_some n hn F b o d o2 c e w I1 I2
/-- What a mark writes. -/
def mkFlock (m : Nat) (i j : Nat) : Int := (ksFlock.getD j .i64).wrap ((m : Int) + 6 * (i : Int) + (j : Int))
theorem Fmark_nil (p : Option Addr) (c : Nat) (m : Int) (w : World) : Calls Tryd.prog 26 #[.slice p 0 c, .int .i64 m] w fun e w' => e = .returned (.int .i64 m) ∧ w = w' := by
  go_enter Tryd.func26, Tryd.ntmps26
  go_wp2_with fail
  refine wp_loop_rounds 1 ?_
  rw [rounds_succ]
  go_wp2_with fail
  go_ret
  exact ⟨rfl, rfl⟩
set_option maxHeartbeats 4000000 in
theorem Fmark_some (n : Nat) (hn : n ≤ 2 ^ 40) (m : Nat) (hm : m ≤ 2 ^ 41) (b o c : Nat) (cs : Array Value) (hcs : o + n * 6 ≤ cs.size) (w : World) (B : Blk w b cs 38) :
    Calls Tryd.prog 26 #[.slice (some ⟨b, o, none⟩) n c, .int .i64 m] w fun e w' => e = .returned (.int .i64 ((m : Int) + 6 * (n : Int))) ∧ w.grownBy w' (some b) ∧ w'.heap.size = w.heap.size ∧ InS w' b o n ksFlock (mkFlock m) ∧ ∃ cs' : Array Value, cs'.size = cs.size ∧ Blk w' b cs' 38 := by
  go_enter Tryd.func26, Tryd.ntmps26
  go_wp2_with fail
  go_loopw [1, 5] (fun v i wr => ∃ k : Nat, k ≤ n ∧ i = .int .i64 k ∧ v = .int .i64 ((m : Int) + 6 * (k : Int)) ∧ Hid (w.grownBy wr (some b)) ∧ Hid (wr.heap.size = w.heap.size) ∧ Hid (∃ cs' : Array Value, cs'.size = cs.size ∧ Blk wr b cs' 38 ∧ ∀ i, i < k → ∀ j, j < 6 → cs'[o + i * 6 + j]? = some (sget ksFlock (mkFlock m) i j))) (fun _ i _ => n - (intOf i).toNat)
  case atStart => exact ⟨0, by omega, rfl, by simp, Lib.hid ⟨rfl, rfl, rfl, Nat.le_refl _, fun _ _ _ => rfl⟩, Lib.hid rfl, Lib.hid ⟨cs, rfl, B, fun i hi => by omega⟩⟩
  case round =>
    obtain ⟨k, hk, rfl, rfl, hgr, hsz, hB⟩ := hrel
    by_cases hlt : k < n
    · obtain ⟨cs', hc', B', hI⟩ := hB.out
      have HI := Lib.hid hI
      clear hB hI
      have c0 := B'.cell (i := o + k * 6) (Array.getElem?_eq_getElem (show o + k * 6 < cs'.size by omega))
      have e0 := B'.free (o + k * 6)
      go_upto_region 5 with (fail)
      clear c0 e0
      have B1 := B'.set (o + k * 6) (.int .i16 (IntKind.i16.wrap ((m : Int) + 6 * (k : Int))))
      have hs1 : Hid ((cs'.setIfInBounds (o + k * 6) (.int .i16 (IntKind.i16.wrap ((m : Int) + 6 * (k : Int))))).size = cs'.size) := Lib.hid (by simp)
      have g1 := Lib.hid (Ngrown_cell wr b (o + k * 6) (.int .i16 (IntKind.i16.wrap ((m : Int) + 6 * (k : Int)))))
      have z1 : Hid ((wr.setCell ⟨b, o + k * 6, none⟩ (.int .i16 (IntKind.i16.wrap ((m : Int) + 6 * (k : Int))))).heap.size = wr.heap.size) := Lib.hid (by simp)
      obtain ⟨d1, hd1⟩ : ∃ x, cs'.setIfInBounds (o + k * 6) (.int .i16 (IntKind.i16.wrap ((m : Int) + 6 * (k : Int)))) = x := ⟨_, rfl⟩
      have hD1 := Lib.hid hd1
      rw [hd1] at B1 hs1
      clear hd1
      generalize wr.setCell _ _ = V1 at B1 g1 z1 ⊢
      have c0 := B1.cell (i := o + k * 6 + 1) (Array.getElem?_eq_getElem (show o + k * 6 + 1 < d1.size by have := hs1.out; omega))
      have e0 := B1.free (o + k * 6 + 1)
      go_upto_region 7 with (fail)
      clear c0 e0
      have B2 := B1.set (o + k * 6 + 1) (.int .i16 (IntKind.i16.wrap ((m : Int) + 6 * (k : Int) + 1)))
      have hs2 : Hid ((d1.setIfInBounds (o + k * 6 + 1) (.int .i16 (IntKind.i16.wrap ((m : Int) + 6 * (k : Int) + 1)))).size = cs'.size) := Lib.hid (by simp; exact hs1.out)
      have g2 := Lib.hid (Ngrown_cell V1 b (o + k * 6 + 1) (.int .i16 (IntKind.i16.wrap ((m : Int) + 6 * (k : Int) + 1))))
      have z2 : Hid ((V1.setCell ⟨b, o + k * 6 + 1, none⟩ (.int .i16 (IntKind.i16.wrap ((m : Int) + 6 * (k : Int) + 1)))).heap.size = V1.heap.size) := Lib.hid (by simp)
      obtain ⟨d2, hd2⟩ : ∃ x, d1.setIfInBounds (o + k * 6 + 1) (.int .i16 (IntKind.i16.wrap ((m : Int) + 6 * (k : Int) + 1))) = x := ⟨_, rfl⟩
      have hD2 := Lib.hid hd2
      rw [hd2] at B2 hs2
      clear hd2
      generalize V1.setCell _ _ = V2 at B2 g2 z2 ⊢
      have c0 := B2.cell (i := o + k * 6 + 2) (Array.getElem?_eq_getElem (show o + k * 6 + 2 < d2.size by have := hs2.out; omega))
      have e0 := B2.free (o + k * 6 + 2)
      go_upto_region 9 with (fail)
      clear c0 e0
      have B3 := B2.set (o + k * 6 + 2) (.int .i16 (IntKind.i16.wrap ((m : Int) + 6 * (k : Int) + 1 + 1)))
      have hs3 : Hid ((d2.setIfInBounds (o + k * 6 + 2) (.int .i16 (IntKind.i16.wrap ((m : Int) + 6 * (k : Int) + 1 + 1)))).size = cs'.size) := Lib.hid (by simp; exact hs2.out)
      have g3 := Lib.hid (Ngrown_cell V2 b (o + k * 6 + 2) (.int .i16 (IntKind.i16.wrap ((m : Int) + 6 * (k : Int) + 1 + 1))))
      have z3 : Hid ((V2.setCell ⟨b, o + k * 6 + 2, none⟩ (.int .i16 (IntKind.i16.wrap ((m : Int) + 6 * (k : Int) + 1 + 1)))).heap.size = V2.heap.size) := Lib.hid (by simp)
      obtain ⟨d3, hd3⟩ : ∃ x, d2.setIfInBounds (o + k * 6 + 2) (.int .i16 (IntKind.i16.wrap ((m : Int) + 6 * (k : Int) + 1 + 1))) = x := ⟨_, rfl⟩
      have hD3 := Lib.hid hd3
      rw [hd3] at B3 hs3
      clear hd3
      generalize V2.setCell _ _ = V3 at B3 g3 z3 ⊢
      have c0 := B3.cell (i := o + k * 6 + 3) (Array.getElem?_eq_getElem (show o + k * 6 + 3 < d3.size by have := hs3.out; omega))
      have e0 := B3.free (o + k * 6 + 3)
      go_upto_region 11 with (fail)
      clear c0 e0
      have B4 := B3.set (o + k * 6 + 3) (.int .i16 (IntKind.i16.wrap ((m : Int) + 6 * (k : Int) + 1 + 1 + 1)))
      have hs4 : Hid ((d3.setIfInBounds (o + k * 6 + 3) (.int .i16 (IntKind.i16.wrap ((m : Int) + 6 * (k : Int) + 1 + 1 + 1)))).size = cs'.size) := Lib.hid (by simp; exact hs3.out)
      have g4 := Lib.hid (Ngrown_cell V3 b (o + k * 6 + 3) (.int .i16 (IntKind.i16.wrap ((m : Int) + 6 * (k : Int) + 1 + 1 + 1))))
      have z4 : Hid ((V3.setCell ⟨b, o + k * 6 + 3, none⟩ (.int .i16 (IntKind.i16.wrap ((m : Int) + 6 * (k : Int) + 1 + 1 + 1)))).heap.size = V3.heap.size) := Lib.hid (by simp)
      obtain ⟨d4, hd4⟩ : ∃ x, d3.setIfInBounds (o + k * 6 + 3) (.int .i16 (IntKind.i16.wrap ((m : Int) + 6 * (k : Int) + 1 + 1 + 1))) = x := ⟨_, rfl⟩
      have hD4 := Lib.hid hd4
      rw [hd4] at B4 hs4
      clear hd4
      generalize V3.setCell _ _ = V4 at B4 g4 z4 ⊢
      have c0 := B4.cell (i := o + k * 6 + 4) (Array.getElem?_eq_getElem (show o + k * 6 + 4 < d4.size by have := hs4.out; omega))
      have e0 := B4.free (o + k * 6 + 4)
      go_upto_region 13 with (fail)
      clear c0 e0
      have B5 := B4.set (o + k * 6 + 4) (.int .i16 (IntKind.i16.wrap ((m : Int) + 6 * (k : Int) + 1 + 1 + 1 + 1)))
      have hs5 : Hid ((d4.setIfInBounds (o + k * 6 + 4) (.int .i16 (IntKind.i16.wrap ((m : Int) + 6 * (k : Int) + 1 + 1 + 1 + 1)))).size = cs'.size) := Lib.hid (by simp; exact hs4.out)
      have g5 := Lib.hid (Ngrown_cell V4 b (o + k * 6 + 4) (.int .i16 (IntKind.i16.wrap ((m : Int) + 6 * (k : Int) + 1 + 1 + 1 + 1))))
      have z5 : Hid ((V4.setCell ⟨b, o + k * 6 + 4, none⟩ (.int .i16 (IntKind.i16.wrap ((m : Int) + 6 * (k : Int) + 1 + 1 + 1 + 1)))).heap.size = V4.heap.size) := Lib.hid (by simp)
      obtain ⟨d5, hd5⟩ : ∃ x, d4.setIfInBounds (o + k * 6 + 4) (.int .i16 (IntKind.i16.wrap ((m : Int) + 6 * (k : Int) + 1 + 1 + 1 + 1))) = x := ⟨_, rfl⟩
      have hD5 := Lib.hid hd5
      rw [hd5] at B5 hs5
      clear hd5
      generalize V4.setCell _ _ = V5 at B5 g5 z5 ⊢
      have c0 := B5.cell (i := o + k * 6 + 5) (Array.getElem?_eq_getElem (show o + k * 6 + 5 < d5.size by have := hs5.out; omega))
      have e0 := B5.free (o + k * 6 + 5)
      go_wp2_with fail
      clear c0 e0
      go_roundw
      case rel =>
        refine ⟨k + 1, by omega, by go_num, by go_num, Lib.hid (Ngrown_trans hgr.out (Ngrown_trans g1.out (Ngrown_trans g2.out (Ngrown_trans g3.out (Ngrown_trans g4.out (Ngrown_trans g5.out (Ngrown_cell _ _ _ _))))))), Lib.hid (by rw [← hsz.out]; simp; rw [z5.out, z4.out, z3.out, z2.out, z1.out]), Lib.hid ⟨_, by simp; rw [← hc']; exact hs5.out, B5.set (o + k * 6 + 5) _, fun i hi q hq => ?_⟩⟩
        have hcs' : o + n * 6 ≤ cs'.size := by omega
        rw [← hD5.out, ← hD4.out, ← hD3.out, ← hD2.out, ← hD1.out]
        simp only [Array.getElem?_setIfInBounds, Array.size_setIfInBounds]
        by_cases e : i = k
        · subst e
          have hq4 : q = 0 ∨ q = 1 ∨ q = 2 ∨ q = 3 ∨ q = 4 ∨ q = 5 := by omega
          rcases hq4 with rfl | rfl | rfl | rfl | rfl | rfl
          · rw [if_neg (by omega)]; rw [if_neg (by omega)]; rw [if_neg (by omega)]; rw [if_neg (by omega)]; rw [if_neg (by omega)]; rw [if_pos (by omega), if_pos (by omega)]; exact congrArg (fun x => some (Value.int .i16 (IntKind.i16.wrap x))) (show _ = (m : Int) + 6 * (i : Int) + ((0 : Nat) : Int) by omega)
          · rw [if_neg (by omega)]; rw [if_neg (by omega)]; rw [if_neg (by omega)]; rw [if_neg (by omega)]; rw [if_pos (by omega), if_pos (by omega)]; exact congrArg (fun x => some (Value.int .i16 (IntKind.i16.wrap x))) (show _ = (m : Int) + 6 * (i : Int) + ((1 : Nat) : Int) by omega)
          · rw [if_neg (by omega)]; rw [if_neg (by omega)]; rw [if_neg (by omega)]; rw [if_pos (by omega), if_pos (by omega)]; exact congrArg (fun x => some (Value.int .i16 (IntKind.i16.wrap x))) (show _ = (m : Int) + 6 * (i : Int) + ((2 : Nat) : Int) by omega)
          · rw [if_neg (by omega)]; rw [if_neg (by omega)]; rw [if_pos (by omega), if_pos (by omega)]; exact congrArg (fun x => some (Value.int .i16 (IntKind.i16.wrap x))) (show _ = (m : Int) + 6 * (i : Int) + ((3 : Nat) : Int) by omega)
          · rw [if_neg (by omega)]; rw [if_pos (by omega), if_pos (by omega)]; exact congrArg (fun x => some (Value.int .i16 (IntKind.i16.wrap x))) (show _ = (m : Int) + 6 * (i : Int) + ((4 : Nat) : Int) by omega)
          · rw [if_pos (by omega), if_pos (by omega)]; exact congrArg (fun x => some (Value.int .i8 (IntKind.i8.wrap x))) (show _ = (m : Int) + 6 * (i : Int) + ((5 : Nat) : Int) by omega)
        · rw [if_neg (by omega)]; rw [if_neg (by omega)]; rw [if_neg (by omega)]; rw [if_neg (by omega)]; rw [if_neg (by omega)]; rw [if_neg (by omega)]; exact HI.out i (by omega) q hq
      case measure => simp [intOf]; omega
    · obtain rfl : k = n := by omega
      go_wp2_with fail
      go_ret
      obtain ⟨cs', hc', B', hI⟩ := hB.out
      refine ⟨rfl, hgr.out, hsz.out, fun i hi j v hj => ?_, cs', hc', B'⟩
      have hjs : j < 6 := by
        have := (List.getElem?_eq_some_iff.1 hj).1
        simpa [srow_size] using this
      rw [Array.getElem?_toList, srow_get _ _ _ _ hjs] at hj
      rw [← Option.some.inj hj]
      exact B'.cell (hI i hi j hjs)
theorem Fmark_any {lo hi : Nat} (n : Nat) (hn : n ≤ 2 ^ 40) (m : Nat) (hm : m ≤ 2 ^ 41) (p : Option Addr) (c : Nat) (w : World) (H : SW ksFlock 38 lo hi w p n) :
    Calls Tryd.prog 26 #[.slice p n c, .int .i64 m] w fun e w' => e = .returned (.int .i64 ((m + 6 * n : Nat) : Int)) ∧ NMarks lo hi w w' ∧ SV ksFlock lo hi w' p n (mkFlock m) := by
  rcases H with rfl | ⟨b, o, cs, rfl, h1, h2, h3, B⟩
  · refine (Fmark_nil p c m w).mono ?_
    rintro e w' ⟨rfl, rfl⟩
    exact ⟨by simp, .inl rfl, .inl rfl⟩
  · refine (Fmark_some n hn m hm b o c cs h3 w B).mono ?_
    rintro e w' ⟨rfl, hg, hs, hI, cs', _, B'⟩
    exact ⟨by rw [Int.natCast_add, Int.natCast_mul]; rfl, .inr ⟨b, h1, h2, hg, hs⟩, .inr ⟨b, o, rfl, h1, h2, hI⟩⟩
end
section
open Go Go.RowKit

/-- n structs of a slice whose block is new since lo. -/
def SO (ks : List IntKind) (t : TypeId) (lo : Nat) (w : World) (p : Option Addr) (n : Nat) (F : Nat → Nat → Int) : Prop :=
  n = 0 ∨ ∃ b cs, p = some ⟨b, 0, none⟩ ∧ lo ≤ b ∧ n * ks.length ≤ cs.size ∧ Blk w b cs t ∧ ∀ i, i < n → ∀ j, j < ks.length → cs[i * ks.length + j]? = some (sget ks F i j)
theorem SO.later {ks : List IntKind} {t : TypeId} {lo : Nat} {w w' : World} {p : Option Addr} {n : Nat} {F : Nat → Nat → Int} (h : SO ks t lo w p n F) (hb : Below w.heap.size w w') : SO ks t lo w' p n F :=
  h.imp id fun ⟨b, cs, e, h1, h2, h3, h4⟩ => ⟨b, cs, e, h1, h2, h3.later hb, h4⟩
theorem SO.weak {ks : List IntKind} {t : TypeId} {lo lo' : Nat} {w : World} {p : Option Addr} {n : Nat} {F : Nat → Nat → Int} (h : SO ks t lo w p n F) (hl : lo' ≤ lo) : SO ks t lo' w p n F :=
  h.imp id fun ⟨b, cs, e, h1, h2, h3, h4⟩ => ⟨b, cs, e, Nat.le_trans hl h1, h2, h3, h4⟩
theorem SO.inS {ks : List IntKind} {t : TypeId} {lo : Nat} {w : World} {p : Option Addr} {n : Nat} {F : Nat → Nat → Int} (h : SO ks t lo w p n F) : SV ks lo w.heap.size w p n F :=
  h.imp id fun ⟨b, cs, e, h1, _, h3, h4⟩ => ⟨b, 0, e, h1, h3.lt, fun i hi j v hj => by
    have hjs : j < ks.length := by
      have := (List.getElem?_eq_some_iff.1 hj).1
      simpa [srow_size] using this
    rw [Array.getElem?_toList, srow_get _ _ _ _ hjs] at hj
    rw [← Option.some.inj hj, Nat.zero_add]
    exact h3.cell (h4 i hi j hjs)⟩
theorem SO.sw {ks : List IntKind} {t : TypeId} {lo : Nat} {w : World} {p : Option Addr} {n : Nat} {F : Nat → Nat → Int} (h : SO ks t lo w p n F) : SW ks t lo w.heap.size w p n :=
  h.imp id fun ⟨b, cs, e, h1, h2, h3, _⟩ => ⟨b, 0, cs, e, h1, h3.lt, by rw [Nat.zero_add]; exact h2, h3⟩
theorem Sown {ks : List IntKind} {t : TypeId} {lo : Nat} {w : World} {v : Value} {n : Nat} {F : Nat → Nat → Int} (h : w.ownsRow lo t ks.length v n (scells ks n F).toList) : ∃ p c, v = .slice p n c ∧ SO ks t lo w p n F := by
  obtain ⟨_, h | ⟨b, cap, cs, rfl, hb, hB, h1, h2, h3, h4⟩⟩ := h
  · obtain ⟨rfl, h0⟩ := h
    exact ⟨none, 0, by rw [h0], .inl h0⟩
  · refine ⟨_, cap, rfl, .inr ⟨b, cs, rfl, hb, by rw [h3]; exact Nat.mul_le_mul_right _ h1, hB, fun i hi j hj => ?_⟩⟩
    have hlt := place_lt hi hj
    have h5 : (cs.toList.take (n * ks.length))[i * ks.length + j]? = (scells ks n F).toList[i * ks.length + j]? := by rw [h4]
    rw [List.getElem?_take, if_pos hlt, Array.getElem?_toList, Array.getElem?_toList, scells_get ks n F i j hi hj] at h5
    exact h5
/-- What append leaves is nil or not. -/
theorem Sown' {ks : List IntKind} {t : TypeId} {lo : Nat} {w : World} {v : Value} {n : Nat} {F : Nat → Nat → Int} (h : w.ownsRow lo t ks.length v n (scells ks n F).toList) (hv : v ≠ .slice none 0 0) : ∃ b c, v = .slice (some ⟨b, 0, none⟩) n c ∧ SO ks t lo w (some ⟨b, 0, none⟩) n F := by
  obtain ⟨p, c, e, hS⟩ := Sown h
  obtain ⟨_, h | ⟨b, cap, cs, e2, _⟩⟩ := h
  · exact absurd h.1 hv
  · rw [e] at e2
    cases e2
    exact ⟨b, _, e, hS⟩
/-- The cells of a list that came in, as append reads them. -/
theorem Snews {ks : List IntKind} {w : World} {b o n : Nat} {F : Nat → Nat → Int} (hk : 0 < ks.length) (I : InS w b o n ks F) : ∀ j u, (scells ks n F).toList[j]? = some u → w.cell? ((⟨b, o, none⟩ : Addr).add j) = some u := by
  intro j u hj
  have hjn : j < n * ks.length := by
    have := (List.getElem?_eq_some_iff.1 hj).1
    simpa [scells_size] using this
  have hi : j / ks.length < n := Nat.div_lt_of_lt_mul (by rw [Nat.mul_comm]; exact hjn)
  have hq : j % ks.length < ks.length := Nat.mod_lt _ hk
  have e : j / ks.length * ks.length + j % ks.length = j := by rw [Nat.mul_comm]; exact Nat.div_add_mod _ _
  have h1 := scells_get ks n F _ _ hi hq
  rw [e] at h1
  rw [Array.getElem?_toList, h1] at hj
  have h2 := I _ hi (j % ks.length) _ (by rw [Array.getElem?_toList]; exact srow_get ks F _ _ hq)
  rw [Nat.add_assoc, e] at h2
  rw [Addr.add_lit, h2]; exact hj
theorem Sone (ks : List IntKind) (n : Nat) (F : Nat → Nat → Int) : ∀ u ∈ (scells ks n F).toList, u.oneCell' = true := by
  intro u hu
  have h := scells_one ks n F
  rw [Array.all_eq_true_iff_forall_mem] at h
  exact h u (by simpa using hu)
theorem Slen (ks : List IntKind) (n : Nat) (F : Nat → Nat → Int) : (scells ks n F).toList.length = n * ks.length := by simp [scells_size]
end
section
open Go Go.RowKit

theorem Finfo : (Tryd.prog.info? 38).map (fun i => (i.zero, i.size, i.bytes)) = some (some (.agg #[.int .i16 0, .int .i16 0, .int .i16 0, .int .i16 0, .int .i16 0, .int .i8 0]), 6, 12) := by kernel_rfl
end
section
open Go Go.RowKit

/-- The rows of a list. -/
def rowsF (R : List (Nat → Int)) : Nat → Nat → Int := fun i j => R.getD i (fun _ => 0) j
theorem rowsF_snoc {R : List (Nat → Int)} {r : Nat → Int} {i : Nat} (h : i < R.length) (j : Nat) : rowsF (R ++ [r]) i j = rowsF R i j := by
  unfold rowsF; simp [List.getD, List.getElem?_append_left h]
theorem rowsF_last (R : List (Nat → Int)) (r : Nat → Int) (j : Nat) : rowsF (R ++ [r]) R.length j = r j := by
  unfold rowsF; simp [List.getD]
/-- The cells of one row. -/
def rcells (ks : List IntKind) (r : Nat → Int) : List Value := (List.range ks.length).map fun j => Value.int (ks.getD j .i64) (r j)
theorem scells_snoc (ks : List IntKind) (R : List (Nat → Int)) (r : Nat → Int) : (scells ks (R ++ [r]).length (rowsF (R ++ [r]))).toList = (scells ks R.length (rowsF R)).toList ++ rcells ks r := by
  apply List.ext_getElem?
  intro q
  rcases Nat.eq_zero_or_pos ks.length with h0 | hpos
  · have e : ∀ n F, (scells ks n F).toList = [] := fun n F => by
      apply List.eq_nil_of_length_eq_zero; rw [Array.length_toList, scells_size, h0, Nat.mul_zero]
    rw [e, e]; simp [rcells, h0]
  have hlen : (scells ks R.length (rowsF R)).toList.length = R.length * ks.length := by rw [Array.length_toList, scells_size]
  have hlen2 : (scells ks (R ++ [r]).length (rowsF (R ++ [r]))).toList.length = (R.length + 1) * ks.length := by rw [Array.length_toList, scells_size, List.length_append]; rfl
  have hs : (R.length + 1) * ks.length = R.length * ks.length + ks.length := by rw [Nat.add_mul, Nat.one_mul]
  have hj : q % ks.length < ks.length := Nat.mod_lt _ hpos
  have hq : q / ks.length * ks.length + q % ks.length = q := by rw [Nat.mul_comm]; exact Nat.div_add_mod _ _
  by_cases h1 : q < R.length * ks.length
  · have hi : q / ks.length < R.length := Nat.div_lt_of_lt_mul (by rw [Nat.mul_comm]; exact h1)
    rw [List.getElem?_append_left (by rw [hlen]; exact h1), Array.getElem?_toList, Array.getElem?_toList]
    have a := scells_get ks (R ++ [r]).length (rowsF (R ++ [r])) _ _ (show q / ks.length < (R ++ [r]).length by rw [List.length_append]; exact Nat.lt_of_lt_of_le hi (Nat.le_add_right _ _)) hj
    have b := scells_get ks R.length (rowsF R) _ _ hi hj
    rw [hq] at a b
    rw [a, b]
    unfold sget
    rw [rowsF_snoc hi]
  · by_cases h2 : q < R.length * ks.length + ks.length
    · obtain ⟨j, rfl⟩ : ∃ j, q = R.length * ks.length + j := ⟨q - R.length * ks.length, by omega⟩
      have hjj : j < ks.length := by omega
      rw [List.getElem?_append_right (by rw [hlen]; omega), hlen, Nat.add_sub_cancel_left, Array.getElem?_toList,
        scells_get ks (R ++ [r]).length (rowsF (R ++ [r])) R.length j (by simp) hjj]
      unfold rcells sget
      rw [rowsF_last, List.getElem?_map, List.getElem?_range hjj]; rfl
    · rw [List.getElem?_eq_none (by rw [hlen2, hs]; omega), List.getElem?_eq_none (by rw [List.length_append, hlen]; simp [rcells]; omega)]
theorem rcells_one (ks : List IntKind) (r : Nat → Int) : ∀ u ∈ rcells ks r, u.oneCell' = true := by
  intro u hu
  simp only [rcells, List.mem_map] at hu
  obtain ⟨j, _, rfl⟩ := hu
  rfl
theorem rcells_len (ks : List IntKind) (r : Nat → Int) : (rcells ks r).length = ks.length := by simp [rcells]
/-- The cells of a row that was just laid. -/
theorem row_new (w : World) (l : List Value) (t : TypeId) : ∀ j u, l[j]? = some u → (w.alloc (.cells l.toArray t)).cell? ((⟨w.heap.size, 0, none⟩ : Addr).add j) = some u := by
  intro j u hj
  rw [Addr.add_lit, Nat.zero_add]
  exact (Blk.new w l.toArray t).cell (by rw [List.getElem?_toArray]; exact hj)
theorem Blk.not_row {W : World} {b : Nat} {cs : Array Value} {t e : TypeId} (h : Blk W b cs t) (hte : t ≠ e) {base size k : Nat} {v : Value} {xs : List Value} (hr : W.ownsRow base e size v k xs) : some b ≠ v.ownBlock := by
  rcases hr.2 with ⟨rfl, _⟩ | ⟨g, cap, cur, rfl, _, hgb, _⟩
  · simp [Value.ownBlock]
  · intro e'
    obtain rfl : b = g := by simpa [Value.ownBlock] using e'
    have := (show W.heap[b]? = _ from h).symm.trans hgb
    simp at this
    exact hte this.2
/-- Behind an append to a boxed slice and the store into the box, the other blocks of the call's own are as they were. -/
theorem Mem.appended {w W w1 : World} {L : List Ent} (H : Mem w W L) {n₀ B : Nat} {e : TypeId} {size : Nat} {v : Value} {k : Nat} {xs : List Value} {tmp : Obj} (v' : Value)
    (hrow : W.ownsRow n₀ e size v k xs) (hgrow : (W.alloc tmp).grownBy w1 v.ownBlock) (hn : w.heap.size ≤ n₀) (hB : w.heap.size ≤ B)
    (hne : ∀ x ∈ L, x.b ≠ B ∧ x.t ≠ e) : Mem w (w1.setCell ⟨B, 0, none⟩ v') L := by
  have hb : Below w.heap.size w (w1.setCell ⟨B, 0, none⟩ v') := by
    refine ((H.below.alloc H.below.size tmp).grown hgrow (by have := H.below.size; simp; omega) fun j ej => ?_).setCell (p := ⟨B, 0, none⟩) hB v'
    rcases hrow.2 with ⟨rfl, _⟩ | ⟨g, cap, cur, rfl, hb, _, _⟩
    · simp [Value.ownBlock] at ej
    · obtain rfl : g = j := by simpa [Value.ownBlock] using ej
      omega
  refine ⟨hb, fun i x h => ⟨(H.blk i x h).1, ?_⟩, H.apart⟩
  obtain ⟨h1, h2⟩ := hne x (List.mem_of_getElem? h)
  have hx := (H.blk i x h).2
  have hx1 : Blk w1 x.b x.cs x.t := by
    unfold Blk
    rw [hgrow.block x.b (hx.alloc tmp).lt (hx.not_row h2 hrow)]
    exact hx.alloc tmp
  exact hx1.setOther v' h1
/-- A slice of one's own is written out. -/
theorem own_out {W : World} {base : Nat} {e : TypeId} {size : Nat} {v : Value} {k : Nat} {xs : List Value} (h : W.ownsRow base e size v k xs) : ∃ p c, v = .slice p k c := by
  rcases h.2 with ⟨rfl, h0⟩ | ⟨g, cap, _, rfl, _⟩
  · exact ⟨none, 0, by rw [h0]⟩
  · exact ⟨_, cap, rfl⟩
end
end Go.Proofs.YtaioflkonpommaaDoor
