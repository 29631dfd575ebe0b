/-
  Lists of numbers that calls make: where they lie, how they are marked, held and compared.
-/
import Derived.Test.YtgadjnddllaejaaDoorInts
import Derived.Test.YtgadjnddllaejaaDoorNumL
import Derived.RangeFuncOwn
import Derived.Deep.Onto
import Derived.Lib.Hide
import Derived.Laws.AppendOwn
import Derived.Lib.SliceRun
namespace Go.Proofs.YtgadjnddllaejaaDoor
open Go Go.RowKit

theorem Ncell {w w' : World} {a : Addr} {v : Value} (h : w.cell? a = some v) (hb : Below w.heap.size w w') : w'.cell? a = some v := by
  rw [hb.cell (World.block_lt_of_cell? _ _ h)]; exact h
/-- What has turned since: nothing, or one block among those from lo to hi. -/
def NMarks (lo hi : Nat) (w w' : World) : Prop := w' = w ∨ ∃ b, lo ≤ b ∧ b < hi ∧ w.grownBy w' (some b) ∧ w'.heap.size = w.heap.size
theorem NMarks.size {lo hi : Nat} {w w' : World} (h : NMarks lo hi w w') : w'.heap.size = w.heap.size := by
  rcases h with rfl | ⟨_, _, _, _, h⟩
  · rfl
  · exact h
/-- n numbers of a slice that lie in a block from lo to hi. -/
def NV (lo hi : Nat) (w : World) (p : Option Addr) (n : Nat) (g : Nat → Int) : Prop := n = 0 ∨ ∃ b o, p = some ⟨b, o, none⟩ ∧ lo ≤ b ∧ b < hi ∧ ∀ i, i < n → w.cell? ⟨b, o + i, none⟩ = some (.int .i64 (g i))
/-- The same, to be written. -/
def NW (lo hi : Nat) (w : World) (p : Option Addr) (n : Nat) : Prop := n = 0 ∨ ∃ b o cs, p = some ⟨b, o, none⟩ ∧ lo ≤ b ∧ b < hi ∧ o + n ≤ cs.size ∧ Blk w b cs 2
theorem NV.later {lo hi : Nat} {w w' : World} {p : Option Addr} {n : Nat} {g : Nat → Int} (h : NV lo hi w p n g) (hb : Below w.heap.size w w') : NV lo hi w' p n g :=
  h.imp id fun ⟨b, o, e, h1, h2, h3⟩ => ⟨b, o, e, h1, h2, fun i hi => Ncell (h3 i hi) hb⟩
theorem NW.later {lo hi : Nat} {w w' : World} {p : Option Addr} {n : Nat} (h : NW lo hi w p n) (hb : Below w.heap.size w w') : NW lo hi w' p n :=
  h.imp id fun ⟨b, o, cs, e, h1, h2, h3, h4⟩ => ⟨b, o, cs, e, h1, h2, h3, h4.later hb⟩
theorem NV.congr {lo hi : Nat} {w : World} {p : Option Addr} {n : Nat} {g g' : Nat → Int} (h : NV lo hi w p n g) (e : ∀ i, i < n → g i = g' i) : NV lo hi w p n g' :=
  h.imp id fun ⟨b, o, e1, h1, h2, h3⟩ => ⟨b, o, e1, h1, h2, fun i hi => by rw [← e i hi]; exact h3 i hi⟩
theorem NV.mono {lo hi lo' hi' : Nat} {w : World} {p : Option Addr} {n : Nat} {g : Nat → Int} (h : NV lo hi w p n g) (h1 : lo' ≤ lo) (h2 : hi ≤ hi') : NV lo' hi' w p n g :=
  h.imp id fun ⟨b, o, e, a1, a2, a3⟩ => ⟨b, o, e, by omega, by omega, a3⟩
theorem NW.mono {lo hi lo' hi' : Nat} {w : World} {p : Option Addr} {n : Nat} (h : NW lo hi w p n) (h1 : lo' ≤ lo) (h2 : hi ≤ hi') : NW lo' hi' w p n :=
  h.imp id fun ⟨b, o, cs, e, a1, a2, a3, a4⟩ => ⟨b, o, cs, e, by omega, by omega, a3, a4⟩
theorem NV.j {lo hi : Nat} {w : World} {p : Option Addr} {n : Nat} {g : Nat → Int} (h : NV lo hi w p n g) : InJ w p n g :=
  h.imp id fun ⟨b, o, e, _, _, h3⟩ => ⟨b, o, e, h3⟩
theorem NV.marked {lo hi lo2 hi2 : Nat} {w w' : World} {p : Option Addr} {n : Nat} {g : Nat → Int} (h : NV lo hi w p n g) (hm : NMarks lo2 hi2 w w') (hd : hi ≤ lo2 ∨ hi2 ≤ lo) : NV lo hi w' p n g := by
  rcases hm with rfl | ⟨b2, k1, k2, hg, _⟩
  · exact h
  · exact h.imp id fun ⟨b, o, e, h1, h2, h3⟩ => ⟨b, o, e, h1, h2, fun i hi => hg.cell (h3 i hi) (fun e => by
      have e : b = b2 := by simpa using e
      omega)⟩
theorem NW.marked {lo hi lo2 hi2 : Nat} {w w' : World} {p : Option Addr} {n : Nat} (h : NW lo hi w p n) (hm : NMarks lo2 hi2 w w') (hd : hi ≤ lo2 ∨ hi2 ≤ lo) : NW lo hi w' p n := by
  rcases hm with rfl | ⟨b2, k1, k2, hg, _⟩
  · exact h
  · refine h.imp id fun ⟨b, o, cs, e, h1, h2, h3, h4⟩ => ⟨b, o, cs, e, h1, h2, h3, ?_⟩
    have h5 : w'.heap[b]? = w.heap[b]? := hg.block b h4.lt (fun e => by have := Option.some.inj e; omega)
    unfold Blk; rw [h5]; exact h4
theorem NMem.marked {w0 w w' : World} {L : List Ent} {lo hi : Nat} (H : Mem w0 w L) (hm : NMarks lo hi w w') (h0 : w0.heap.size ≤ lo) (hl : ∀ (i : Nat) (e : Ent), L[i]? = some e → e.b < lo ∨ hi ≤ e.b) : Mem w0 w' L := by
  rcases hm with rfl | ⟨b2, k1, k2, hg, _⟩
  · exact H
  · refine ⟨H.below.grown hg H.below.size (fun k e => by have := Option.some.inj e; omega), fun i e h => ⟨(H.blk i e h).1, ?_⟩, H.apart⟩
    have h4 := (H.blk i e h).2
    have hne := hl i e h
    have h5 : w'.heap[e.b]? = w.heap[e.b]? := hg.block e.b h4.lt (fun e => by have := Option.some.inj e; omega)
    unfold Blk; rw [h5]; exact h4
theorem NBelow.marked {n0 : Nat} {w0 w w' : World} {lo hi : Nat} (H : Below n0 w0 w) (hm : NMarks lo hi w w') (h1 : n0 ≤ lo) (h2 : lo ≤ w.heap.size) : Below n0 w0 w' := by
  rcases hm with rfl | ⟨b2, k1, k2, hg, hs⟩
  · exact H
  · exact H.grown hg (by omega) (fun k e => by have := Option.some.inj e; omega)
theorem Ngrown_cell (W : World) (b i : Nat) (v : Value) : W.grownBy (W.setCell ⟨b, i, none⟩ v) (some b) :=
  ⟨rfl, rfl, rfl, (KeepsWalks.setCell W _ v).size, fun k _ hk => Below.heap_setCell _ _ _ k (fun e => hk (by rw [e]))⟩
theorem Ngrown_trans {A B C : World} {row : Option Nat} (h1 : A.grownBy B row) (h2 : B.grownBy C row) : A.grownBy C row :=
  ⟨h2.os.trans h1.os, h2.tape.trans h1.tape, h2.output.trans h1.output, Nat.le_trans h1.size h2.size, fun k hk hne => (h2.block k (Nat.lt_of_lt_of_le hk h1.size) hne).trans (h1.block k hk hne)⟩
/-- What append leaves, read and written. -/
theorem Nown {lo : Nat} {w : World} {v : Value} {l : List Int} {n : Nat} (hn : l.length = n) (h : w.ownsRow lo 2 1 v n (l.map (Value.int .i64))) : ∃ p c, v = .slice p n c ∧ NV lo w.heap.size w p n (fun i => l.getD i 0) ∧ NW lo w.heap.size w p n := by
  obtain ⟨_, h | ⟨b, cap, cs, rfl, hb, hB, h1, h2, h3, h4⟩⟩ := h
  · obtain ⟨rfl, h0⟩ := h
    exact ⟨none, 0, by rw [h0], .inl h0, .inl h0⟩
  · rw [Nat.mul_one] at h3 h4
    have hlt := (show Blk w b cs _ from hB).lt
    refine ⟨_, cap, rfl, .inr ⟨b, 0, rfl, hb, hlt, fun i hi => ?_⟩, .inr ⟨b, 0, cs, rfl, hb, hlt, by omega, hB⟩⟩
    refine (show Blk w b cs _ from hB).cell ?_
    rw [Nat.zero_add]
    have h5 : (cs.toList.take n)[i]? = (l.map (Value.int .i64))[i]? := by rw [h4]
    rw [List.getElem?_take, if_pos hi, Array.getElem?_toList, List.getElem?_map, List.getElem?_eq_getElem (show i < l.length by omega)] at h5
    rw [h5]
    show some (Value.int .i64 l[i]) = some (Value.int .i64 (l.getD i 0))
    rw [List.getD_eq_getElem?_getD, List.getElem?_eq_getElem (show i < l.length by omega)]; rfl
theorem Nnews {w : World} {b o n : Nat} {g : Nat → Int} (I : InI w b o n g) : ∀ j u, ((nums g n).map (Value.int .i64))[j]? = some u → w.cell? ((⟨b, o, none⟩ : Addr).add j) = some u := by
  intro j u hj
  have hjn : j < n := by
    have := (List.getElem?_eq_some_iff.1 hj).1
    simpa [nums] using this
  rw [List.getElem?_map, List.getElem?_eq_getElem (by rw [nums_length]; exact hjn)] at hj
  have e : u = .int .i64 (g j) := by
    have := Option.some.inj hj
    rw [← this]; simp [nums]
  rw [Addr.add_lit, e]; exact I j hjn
theorem None (l : List Int) : ∀ u ∈ l.map (Value.int .i64), u.oneCell' = true := by
  intro u hu; simp at hu; obtain ⟨a, _, rfl⟩ := hu; rfl
theorem Ninfo : (Tryd.prog.info? 2).map (fun i => (i.zero, i.size, i.bytes)) = some (some (.int .i64 0), 1, 8) := by kernel_rfl
end Go.Proofs.YtgadjnddllaejaaDoor
