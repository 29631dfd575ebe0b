/-
  Lists of int64 that a call hands back: compared, marked, held.
-/
import Derived.Test.YtfchbdbfokpcdaaDoorInts
import Derived.RangeFuncOwn
import Derived.Deep.Onto
namespace Go.Proofs.YtfchbdbfokpcdaaDoor
open Go Go.RowKit

theorem grown_trans {A B C : World} {row : Option Nat} (h1 : A.grownBy B row) (h2 : B.grownBy C row) : A.grownBy C row :=
  ⟨h2.os.trans h1.os, h2.tape.trans h1.tape, h2.output.trans h1.output, Nat.le_trans h1.size h2.size, fun k hk hne => (h2.block k (Nat.lt_of_lt_of_le hk h1.size) hne).trans (h1.block k hk hne)⟩
theorem grown_cell (W : World) (b i : Nat) (v : Value) : W.grownBy (W.setCell ⟨b, i, none⟩ v) (some b) :=
  ⟨rfl, rfl, rfl, (KeepsWalks.setCell W _ v).size, fun k _ hk => Below.heap_setCell _ _ _ k (fun e => hk (by rw [e]))⟩
theorem grown_drew (W : World) (row : Option Nat) : W.grownBy W row := ⟨rfl, rfl, rfl, Nat.le_refl _, fun _ _ _ => rfl⟩
theorem below_of_grown {lo : Nat} {A B C : World} {b : Nat} (h : Below lo A B) (hl : lo ≤ B.heap.size) (hb : lo ≤ b) (g : B.grownBy C (some b)) : Below lo A C :=
  h.grown g hl (fun k e => by cases e; exact hb)

/-- n numbers of a slice, at the start of its block; or none. -/
def InO (w : World) (p : Option Addr) (n : Nat) (g : Nat → Int) : Prop := n = 0 ∨ ∃ b, p = some ⟨b, 0, none⟩ ∧ InI w b 0 n g
theorem InO.later {w w' : World} {p : Option Addr} {n : Nat} {g : Nat → Int} (h : InO w p n g) (hb : Below w.heap.size w w') : InO w' p n g := by
  rcases h with h | ⟨b, e, J⟩
  · exact .inl h
  · exact .inr ⟨b, e, J.later hb⟩
theorem InO.congr {w : World} {p : Option Addr} {n : Nat} {g g' : Nat → Int} (h : InO w p n g) (e : ∀ i, i < n → g i = g' i) : InO w p n g' := by
  rcases h with h | ⟨b, hp, J⟩
  · exact .inl h
  · exact .inr ⟨b, hp, fun i hi => by rw [← e i hi]; exact J i hi⟩
/-- What lies in another block than the one that turns stays. -/
theorem InO.grown {w w' : World} {p : Option Addr} {n : Nat} {g : Nat → Int} (h : InO w p n g) {b : Nat} (hg : w.grownBy w' (some b)) (hne : ∀ a, p = some a → a.block ≠ b) : InO w' p n g := by
  rcases h with h | ⟨b', hp, J⟩
  · exact .inl h
  · exact .inr ⟨b', hp, fun i hi => hg.cell (J i hi) (fun e => hne _ hp (by simpa using e))⟩
/-- A list that a call hands back. -/
def Lst (lo : Nat) (w : World) (v : Value) (L : List Int) : Prop := w.ownsRow lo 2 1 v L.length (L.map (Value.int .i64))
theorem Lst.val {lo : Nat} {w : World} {v : Value} {L : List Int} (h : Lst lo w v L) : ∃ p c, v = .slice p L.length c ∧ InO w p L.length (fun i => L.getD i 0) ∧ (∀ a, p = some a → lo ≤ a.block ∧ a.block < w.heap.size) ∧
    (L.length = 0 ∨ ∃ b cs, p = some ⟨b, 0, none⟩ ∧ lo ≤ b ∧ L.length ≤ cs.size ∧ Blk w b cs 2) := by
  obtain ⟨_, h | ⟨b, cap, cs, rfl, hb, hB, h1, h2, h3, h4⟩⟩ := h
  · obtain ⟨rfl, h0⟩ := h
    exact ⟨none, 0, by rw [h0], .inl h0, fun a e => by simp at e, .inl h0⟩
  · rw [Nat.mul_one] at h3 h4
    refine ⟨_, cap, rfl, .inr ⟨b, rfl, fun i hi => ?_⟩, fun a e => by cases e; exact ⟨hb, (show Blk w b cs _ from hB).lt⟩, .inr ⟨b, cs, rfl, hb, by omega, hB⟩⟩
    refine (show Blk w b cs _ from hB).cell ?_
    have h5 : (cs.toList.take L.length)[i]? = (L.map (Value.int .i64))[i]? := by rw [h4]
    rw [List.getElem?_take_of_lt hi, List.getElem?_map, List.getElem?_eq_getElem hi] at h5
    rw [Nat.zero_add, ← Array.getElem?_toList, h5]
    simp [List.getD, List.getElem?_eq_getElem hi]
theorem Lst.later {lo : Nat} {w w' : World} {v : Value} {L : List Int} (h : Lst lo w v L) (hb : Below w.heap.size w w') : Lst lo w' v L :=
  ⟨h.1, h.2.imp id fun ⟨g, cap, cur, h1, h2, h3, h4⟩ => ⟨g, cap, cur, h1, h2, (hb.block g (Array.getElem?_eq_some_iff.1 h3).1).trans h3, h4⟩⟩
/-- Behind an append to a list of one's own. -/
theorem app_below {n0 : Nat} {wr w1 : World} {v : Value} {o : Obj} {xs : List Value} {e : TypeId} {sz n : Nat} (hown : wr.ownsRow n0 e sz v n xs) (hn : n0 ≤ wr.heap.size) (hgrow : (wr.alloc o).grownBy w1 v.ownBlock) : Below n0 wr w1 :=
  ((Below.refl n0 wr).alloc hn o).grown hgrow (by simp; omega) (fun j hj => (hown.lt j hj).1)
theorem Lst.snoc {lo : Nat} {w : World} {v : Value} {L : List Int} {x : Int} (h : w.ownsRow lo 2 1 v (L.length + 1) (L.map (Value.int .i64) ++ [.int .i64 x])) : Lst lo w v (L ++ [x]) := by
  unfold Lst; simpa using h
theorem Mem.lower {w0 w w' : World} {L : List Ent} {lo : Nat} (H : Mem w0 w L) (hb : Below lo w w') (h0 : w0.heap.size ≤ lo) (hl : ∀ (i : Nat) (e : Ent), L[i]? = some e → e.b < lo) : Mem w0 w' L :=
  ⟨H.below.trans (hb.mono h0), fun i e h => ⟨(H.blk i e h).1, (H.blk i e h).2.below hb (hl i e h)⟩, H.apart⟩
theorem Mem.lower1 {w0 w w' : World} {e : Ent} {lo : Nat} (H : Mem w0 w [e]) (hb : Below lo w w') (h0 : w0.heap.size ≤ lo) (hl : e.b < lo) : Mem w0 w' [e] :=
  H.lower hb h0 (fun i e' h => by
    match i, h with
    | 0, h => simp at h; subst h; exact hl)
/-- Behind the marks: what the marked list says, and that an elder list says on. -/
theorem marked {p q : Option Addr} {n lo : Nat} {w w' : World} {g : Nat → Int} {b : Nat} (J : InO w q n g) (hq : ∀ a, q = some a → a.block < lo) (hp : ∀ a, p = some a → lo ≤ a.block) (hb : ∀ a, p = some a → n ≠ 0 → a.block = b) (hg : w.grownBy w' (some b)) (he : n ≠ 0 → ∃ a, p = some a) : InO w' q n g := by
  by_cases h0 : n = 0
  · exact .inl h0
  · obtain ⟨a, ha⟩ := he h0
    exact J.grown hg (fun a' h' => by
      have h1 := hq a' h'
      have h2 := hp a ha
      have h3 := hb a ha h0
      omega)
end Go.Proofs.YtfchbdbfokpcdaaDoor
