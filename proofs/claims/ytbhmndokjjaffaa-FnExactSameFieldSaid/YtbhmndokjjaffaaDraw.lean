/-
  Drawn regions that call, allocate and store, by the memory list: what 'go_region_held3' asks behind each operation.
-/
import Derived.Test.YtbhmndokjjaffaaBase
import Derived.Deep.RegionHeld3
import Derived.Lib.Hide
import Derived.Below
namespace Go.Proofs.Ytbhmndokjjaffaa
open Go Go.RowKit

/-- A block behind all of the list's. -/
structure Fresh (w0 : World) (L : List Ent) (n : Nat) : Prop where
  ge : w0.heap.size ≤ n
  lt : ∀ (i : Nat) (e : Ent), L[i]? = some e → e.b < n
theorem Mem.fresh {w0 w : World} {L : List Ent} (H : Mem w0 w L) : Fresh w0 L w.heap.size := ⟨H.below.size, fun i e h => (H.blk i e h).2.lt⟩
theorem Mem.setOut {w0 w : World} {L : List Ent} {n i : Nat} {v : Value} (hF : Fresh w0 L n) (H : Mem w0 w L) : Mem w0 (w.setCell ⟨n, i, none⟩ v) L :=
  ⟨H.below.setCell hF.ge _, fun j e h => ⟨(H.blk j e h).1, (H.blk j e h).2.setOther v (Nat.ne_of_lt (hF.lt j e h))⟩, H.apart⟩
theorem Mem.setOut2 {w0 w : World} {L : List Ent} {n i j : Nat} {v u : Value} (hF : Fresh w0 L n) (H : Mem w0 w L) : Mem w0 ((w.setCell ⟨n, i, none⟩ v).setCell ⟨n, j, none⟩ u) L := Mem.setOut hF (Mem.setOut hF H)
theorem Mem.add {w0 w : World} {L : List Ent} {n : Nat} {cs : Array Value} {t : TypeId} (H : Mem w0 w L) (hF : Fresh w0 L n) (hb : Blk w n cs t) : Mem w0 w (L ++ [⟨n, cs, t⟩]) := by
  have key : ∀ i e, (L ++ [⟨n, cs, t⟩])[i]? = some e → (i < L.length ∧ L[i]? = some e) ∨ (i = L.length ∧ e = ⟨n, cs, t⟩) := fun i e h => by
    rw [List.getElem?_append] at h
    split at h
    · exact .inl ⟨by assumption, h⟩
    · rcases hk : i - L.length with _ | k
      · rw [hk] at h; exact .inr ⟨by omega, by simpa using h.symm⟩
      · rw [hk] at h; simp at h
  refine ⟨H.below, fun i e h => ?_, fun i j e e' h h' hij => ?_⟩
  · rcases key i e h with ⟨_, h1⟩ | ⟨_, rfl⟩
    · exact H.blk i e h1
    · exact ⟨hF.ge, hb⟩
  · rcases key i e h with ⟨hi, h1⟩ | ⟨hi, rfl⟩ <;> rcases key j e' h' with ⟨hj, h2⟩ | ⟨hj, rfl⟩
    · exact H.apart i j e e' h1 h2 hij
    · exact Nat.ne_of_lt (hF.lt i e h1)
    · exact Nat.ne_of_gt (hF.lt j e' h2)
    · omega
/-- Behind a call: what the region's own new block holds. -/
theorem Mem.born {w0 w w1 : World} {L : List Ent} {cs : Array Value} {t : TypeId} (hF : Fresh w0 L w.heap.size) (H : Mem w0 (w.alloc (.cells cs t)) L)
    (hb : Below (w.alloc (.cells cs t)).heap.size (w.alloc (.cells cs t)) w1) : Mem w0 w1 (L ++ [⟨w.heap.size, cs, t⟩]) := (H.add hF (Blk.new _ _ _)).call hb
theorem Mem.bornD {w0 w w1 : World} {L : List Ent} {cs : Array Value} {t : TypeId} (hF : Fresh w0 L w.heap.size) (H : Mem w0 (w.alloc (.cells cs t)).drew L)
    (hb : Below (w.alloc (.cells cs t)).drew.heap.size (w.alloc (.cells cs t)).drew w1) : Mem w0 w1 (L ++ [⟨w.heap.size, cs, t⟩]) := (H.add hF (Blk.new _ _ _).drew).call hb
/-- The cells of a two-word block, for the walk. -/
theorem Mem.two {w0 w : World} {L : List Ent} {n : Nat} {a b : Value} {t : TypeId} (H : Mem w0 w L) (i : Nat) (h : L[i]? = some ⟨n, #[a, b], t⟩) :
    w.cell? ⟨n, 0, none⟩ = some a ∧ w.cell? ⟨n, 1, none⟩ = some b ∧ w.frozen? ⟨n, 0, none⟩ = false ∧ w.frozen? ⟨n, 1, none⟩ = false := by
  have h := H.at i h
  exact ⟨h.cell rfl, h.cell rfl, h.free 0, h.free 1⟩
theorem acells_two (k : IntKind) (f : Nat → Int) : acells k 2 f = #[.int k (f 0), .int k (f 1)] := by
  simp [acells, List.range_succ]

/-- A row's load, taken first. -/
theorem yields_row {P : Program} {ops : Array Oper} {S : World → Prop} {op : Oper} {a : Act} (hw : Region.wanted op (yielded ops a.tmps) = true) (ty : TypeId) (x : Operand) (ho : op.op = .load ty x)
    (b o : Nat) (hx : a.eval x = .pointer (some ⟨b, o, none⟩)) (vs : Array Value) (d : TypeDesc) (hS : ∀ w, S w → w.rangeAt b o vs.toList)
    (hu : P.underlying ty = some d) (hd : d.isRow = true) (hi : (P.info? ty).map (·.size) = some vs.size) : YieldsIf P ops S op (.agg vs) a := by
  have h := yieldsIf_load_mid (P := P) (ops := ops) (S := S) (op := op) (a := a) hw ty x ho b o hx vs.toList d hS hu hd (by simpa using hi)
  simpa using h

open Lean Elab Tactic Meta in
/-- 'go_region_held3' from its middle on: behind loads that were taken by hand. -/
elab "x_walk " "(" keep:tactic ")" "(" tac:tactic ")" : tactic => regionWalkH3 keep tac false
end Go.Proofs.Ytbhmndokjjaffaa
