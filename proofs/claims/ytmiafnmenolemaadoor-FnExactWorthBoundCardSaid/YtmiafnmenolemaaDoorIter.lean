/-
  The iterator over a field's cells: its contract: all cells, ascending; or a part of them, where a round says no more.
-/
import Derived.Test.YtmiafnmenolemaaDoorImpl1
import Derived.RangeFuncNested
import Derived.RangeFuncBound
import Derived.RangeFuncCalls
import Derived.RangeFuncLeaves
import Derived.Shelf.Abstract
import Derived.Shelf.RegionOpen
import Derived.OwnWalkIn
import Derived.TacticsInMore
import Derived.LoopNIn
import Derived.LoopIn
namespace Go.Proofs.YtmiafnmenolemaaDoor
open Go Go.RowKit Go.Shelf

/-- A cell of the field f. -/
abbrev CellOf (f : Fd) : Type := { c : Nat // isCell f c = true }
/-- The cells below n, ascending. -/
def cellsTo (f : Fd) : Nat → List (CellOf f)
  | 0 => []
  | n + 1 => if h : isCell f n = true then cellsTo f n ++ [⟨n, h⟩] else cellsTo f n
theorem cellsTo_yes {f : Fd} {n : Nat} (h : isCell f n = true) : cellsTo f (n + 1) = cellsTo f n ++ [⟨n, h⟩] := by simp [cellsTo, h]
theorem cellsTo_no {f : Fd} {n : Nat} (h : isCell f n = false) : cellsTo f (n + 1) = cellsTo f n := by simp [cellsTo, h]
theorem cellsTo_skip {f : Fd} {a b : Nat} (hab : a ≤ b) (h : ∀ c, a ≤ c → c < b → isCell f c = false) : cellsTo f b = cellsTo f a := by
  induction b with
  | zero => obtain rfl : a = 0 := by omega
            rfl
  | succ b ih =>
    by_cases e : a = b + 1
    · subst e; rfl
    · rw [cellsTo_no (h b (by omega) (by omega)), ih (by omega) (fun c h1 h2 => h c h1 (by omega))]
theorem cellsTo_length (f : Fd) : ∀ n, (cellsTo f n).length ≤ n
  | 0 => Nat.le_refl _
  | n + 1 => by
    have := cellsTo_length f n
    unfold cellsTo; split
    · simp; omega
    · omega
theorem cellsTo_mem {f : Fd} : ∀ {n : Nat} {c : CellOf f}, c ∈ cellsTo f n ↔ c.1 < n
  | 0, c => by simp [cellsTo]
  | n + 1, c => by
    unfold cellsTo; split
    · rename_i h
      rw [List.mem_append, cellsTo_mem]
      constructor
      · rintro (h1 | h1)
        · omega
        · have : c = ⟨n, h⟩ := by simpa using h1
          subst this; exact Nat.lt_succ_self n
      · intro h1
        by_cases e : c.1 = n
        · right; simp; exact Subtype.ext e
        · left; omega
    · rename_i h
      rw [cellsTo_mem]
      constructor
      · intro h1; omega
      · intro h1
        by_cases e : c.1 = n
        · exact absurd (e ▸ c.2) h
        · omega
theorem isCell_lt {f : Fd} {c : Nat} (h : isCell f c = true) : c < 100 := by
  simp only [isCell, Bool.and_eq_true, inB_iff] at h; omega
theorem isCell_xy {f : Fd} {x y : Nat} (hx : x < 10) (hy : y < 10) : isCell f ((x + 10 * y : Nat) : Int) = (decide ((x : Int) < f.W) && decide ((y : Int) < f.H)) := by
  unfold isCell inB
  rw [Bool.eq_iff_iff]
  simp only [Bool.and_eq_true, decide_eq_true_eq]
  have e1 : ((x + 10 * y : Nat) : Int) % 10 = x := by omega
  have e2 : ((x + 10 * y : Nat) : Int) / 10 = y := by omega
  rw [e1, e2]; omega

/-- The caller's memory abides what the loop's law and the iterator turn. -/
theorem Blk.grown {W W' : World} {row : Option Nat} {b : Nat} {cs : Array Value} {t : TypeId} (h : Blk W b cs t) (hg : W.grownBy W' row) (hr : ∀ r, row = some r → ∃ o : Obj, W.heap[r]? = some o ∧ o.isCells = false) : Blk W' b cs t := by
  unfold Blk
  rw [hg.block b h.lt (fun e => by
    obtain ⟨o, ho, hc⟩ := hr b e.symm
    rw [show W.heap[b]? = _ from h] at ho
    cases ho; cases hc)]
  exact h
theorem Mem.grown {w0 W W' : World} {L : List Ent} {row : Option Nat} {B : Nat} (H : Mem w0 W L) (hB : w0.heap.size ≤ B) (hg : W.grownBy W' row) (hr : ∀ r, row = some r → B ≤ r ∧ ∃ o : Obj, W.heap[r]? = some o ∧ o.isCells = false) : Mem w0 W' L :=
  ⟨H.below.grown hg H.below.size (fun k e => Nat.le_trans hB (hr k e).1), fun i e h => ⟨(H.blk i e h).1, (H.blk i e h).2.grown hg (fun r e => (hr r e).2)⟩, H.apart⟩
/-- The block of the deferred calls is taken: the memory is as it was. -/
theorem Mem.taken {w0 W : World} {L : List Ent} {D : Nat} {o o' : Obj} (H : Mem w0 W L) (hD : w0.heap.size ≤ D) (hK : W.heap[D]? = some o) (ho : o.isCells = false) : Mem w0 (W.putObj D o') L :=
  H.grown hD (grownBy_putObj' W D o') (fun r e => by cases e; exact ⟨Nat.le_refl _, o, hK, ho⟩)
theorem KeepsOthers.of_below {W W' : World} (h : Below W.heap.size W W') : KeepsOthers W W' :=
  ⟨h.size, fun k _ hk _ => (h.block k (Array.getElem?_eq_some_iff.1 hk).1).trans hk⟩
theorem keeps_setCells (b : Nat) : ∀ (vs : List Value) (o : Nat) (W : World), KeepsOthers W (W.setCells b o vs)
  | [], _, W => KeepsOthers.refl W
  | v :: r, o, W => (KeepsOthers.setCell W ⟨b, o, none⟩ v).trans (keeps_setCells b r (o + 1) _)
theorem Mem.same {w0 w1 W W' : World} {L L' : List Ent} (H : Mem w0 W L) (H' : Mem w1 W' L') (i j : Nat) {b : Nat} {cs : Array Value} {t : TypeId} (h : L[i]? = some ⟨b, cs, t⟩) (h' : L'[j]? = some ⟨b, cs, t⟩) : W'.heap[b]? = W.heap[b]? :=
  Eq.trans (H'.at j h') (Eq.symm (H.at i h))
end Go.Proofs.YtmiafnmenolemaaDoor
