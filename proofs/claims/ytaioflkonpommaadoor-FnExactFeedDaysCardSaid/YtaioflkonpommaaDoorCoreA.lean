/-
  Memory blocks that are known whole, rows of integers as functions, and small facts on worlds: what the walks of this seat use.
  Loads and stores of whole rows, inside a fence and inside a round.
  A field as two sizes and two functions; its 202 cells; reading and writing them; the zero values of this seat's row types.
  Bounds on a number, and the model's test of them.
  The model's small tests on numbers, cells and fields.
  The program's small functions on numbers, places and spots.
  The iterator over a field's cells: its contract: all cells, ascending; or a part of them, where a round says no more.
  Two fields, compared by ==: equal just where all 202 cells are.
  The program's ValidField answers as the model's test.
-/
import Derived.Test.YtaioflkonpommaaDoorProg
import Derived.WalkKit
import Derived.WalkLawsBesides
import Derived.WalkSpells
import Derived.BigQuiet
import Derived.Deep.QuietTactic
import Derived.Deep.MidRow
import Derived.TacticsInMore
import Derived.OwnWalkIn
import Derived.Deep.DeepCutAuto
import Derived.StillTailTactics
import Derived.RangeFuncNested
import Derived.RangeFuncBound
import Derived.RangeFuncCalls
import Derived.RangeFuncLeaves
import Derived.Shelf.Abstract
import Derived.Shelf.RegionOpen
import Derived.LoopNIn
import Derived.LoopIn
import Derived.DeepKeys
import Derived.KernelRfl
import Derived.Sort.CutIn
namespace Go.Proofs.YtaioflkonpommaaDoor
section
open Go Go.RowKit

/-- Block b of the world w is a row of the cells cs, of type t, that may be written. -/
def Blk (w : World) (b : Nat) (cs : Array Value) (t : TypeId) : Prop := w.heap[b]? = some (.cells cs t (0, 0))

theorem Blk.lt {w : World} {b : Nat} {cs : Array Value} {t : TypeId} (h : Blk w b cs t) : b < w.heap.size := (Array.getElem?_eq_some_iff.1 h).1
theorem heap_alloc (w : World) (o : Obj) (k : Nat) : (w.alloc o).heap[k]? = if k = w.heap.size then some o else w.heap[k]? := by
  show (w.heap.push o)[k]? = _
  rw [Array.getElem?_push]
theorem Blk.new (w : World) (cs : Array Value) (t : TypeId) : Blk (w.alloc (.cells cs t)) w.heap.size cs t := by
  unfold Blk; rw [heap_alloc, if_pos rfl]
theorem Blk.alloc {w : World} {b : Nat} {cs : Array Value} {t : TypeId} (h : Blk w b cs t) (o : Obj) : Blk (w.alloc o) b cs t := by
  have := h.lt
  unfold Blk; rw [heap_alloc, if_neg (by omega)]; exact h
theorem Blk.drew {w : World} {b : Nat} {cs : Array Value} {t : TypeId} (h : Blk w b cs t) : Blk w.drew b cs t := h
theorem Blk.drewN {w : World} {b : Nat} {cs : Array Value} {t : TypeId} (h : Blk w b cs t) (n : Nat) : Blk (w.drewN n) b cs t := h
theorem Blk.set {w : World} {b : Nat} {cs : Array Value} {t : TypeId} (h : Blk w b cs t) (i : Nat) (v : Value) : Blk (w.setCell ⟨b, i, none⟩ v) b (cs.setIfInBounds i v) t :=
  heap_setCell_same w b i cs t v h
theorem Blk.setOther {w : World} {b : Nat} {cs : Array Value} {t : TypeId} (h : Blk w b cs t) {a : Addr} (v : Value) (hne : b ≠ a.block) : Blk (w.setCell a v) b cs t := by
  unfold Blk; rw [heap_setCell_other w a b v hne]; exact h
theorem Blk.row {w : World} {b : Nat} {cs : Array Value} {t : TypeId} (h : Blk w b cs t) (cs' : Array Value) : Blk (w.setRow b cs') b cs' t := setRow_heap w b cs cs' t _ h
theorem Blk.rowOther {w : World} {b b' : Nat} {cs : Array Value} {t : TypeId} (h : Blk w b cs t) (cs' : Array Value) (hne : b ≠ b') : Blk (w.setRow b' cs') b cs t := by
  unfold Blk; rw [setRow_other w b' b cs' hne]; exact h
theorem Blk.below {B : Nat} {w w' : World} {b : Nat} {cs : Array Value} {t : TypeId} (h : Blk w b cs t) (hb : Below B w w') (hlt : b < B) : Blk w' b cs t := by
  unfold Blk; rw [hb.block b hlt]; exact h
theorem Blk.later {w w' : World} {b : Nat} {cs : Array Value} {t : TypeId} (h : Blk w b cs t) (hb : Below w.heap.size w w') : Blk w' b cs t := h.below hb h.lt
theorem Blk.cell {w : World} {b : Nat} {cs : Array Value} {t : TypeId} (h : Blk w b cs t) {i : Nat} {v : Value} (hv : cs[i]? = some v) : w.cell? ⟨b, i, none⟩ = some v := by
  rw [cell_of_row _ _ _ _ _ _ h]; exact hv
theorem Blk.free {w : World} {b : Nat} {cs : Array Value} {t : TypeId} (h : Blk w b cs t) (i : Nat) : w.frozen? ⟨b, i, none⟩ = false := frozen_of_row _ _ _ _ _ h
theorem Blk.range {w : World} {b : Nat} {cs : Array Value} {t : TypeId} (h : Blk w b cs t) (o : Nat) {vs : Array Value} (hv : ∀ j, j < vs.size → cs[o + j]? = vs[j]?) : w.rangeAt b o vs.toList := fun j v hj => by
  have hlt : j < vs.size := by have := (List.getElem?_eq_some_iff.1 hj).1; simpa using this
  rw [cell_of_row _ _ _ _ _ _ h, hv j hlt]; simpa using hj
theorem Blk.there {w : World} {b : Nat} {cs : Array Value} {t : TypeId} (h : Blk w b cs t) (o n : Nat) (hn : o + n ≤ cs.size) : w.there b o n := fun j hj => by
  refine ⟨?_, h.free _⟩
  rw [cell_of_row _ _ _ _ _ _ h, Array.getElem?_eq_getElem (by omega)]; rfl
theorem Blk.inj {w : World} {b : Nat} {cs cs' : Array Value} {t t' : TypeId} (h : Blk w b cs t) (h' : Blk w b cs' t') : cs = cs' := by
  have := Option.some.inj (h.symm.trans h'); injection this
theorem Blk.cells {b : Nat} {t : TypeId} : ∀ (vs : List Value) (cs : Array Value) (o : Nat) (w : World), Blk w b cs t → ∃ cs', Blk (w.setCells b o vs) b cs' t ∧ cs'.size = cs.size ∧
    ∀ i, cs'[i]? = if o ≤ i ∧ i < o + vs.length ∧ i < cs.size then vs[i - o]? else cs[i]?
  | [], cs, o, w, h => ⟨cs, h, rfl, fun i => by rw [if_neg (by simp; omega)]⟩
  | v :: r, cs, o, w, h => by
    obtain ⟨cs', h1, h2, h3⟩ := Blk.cells r _ (o + 1) _ (h.set o v)
    refine ⟨cs', h1, by rw [h2]; simp, fun i => ?_⟩
    rw [h3 i]
    simp only [Array.size_setIfInBounds, List.length_cons]
    by_cases e : i = o
    · subst e
      rw [if_neg (by omega), Array.getElem?_setIfInBounds]
      by_cases hs : i < cs.size
      · rw [if_pos rfl, if_pos hs, if_pos (by omega)]; simp
      · rw [if_pos rfl, if_neg hs, if_neg (by omega), Array.getElem?_eq_none (by omega)]
    · by_cases hc : o + 1 ≤ i ∧ i < o + 1 + r.length ∧ i < cs.size
      · rw [if_pos hc, if_pos (by omega)]
        have : i - o = (i - (o + 1)) + 1 := by omega
        rw [this, List.getElem?_cons_succ]
      · rw [if_neg hc, if_neg (by omega), Array.getElem?_setIfInBounds, if_neg (fun x => e x.symm)]
theorem Blk.cellsOther {b b' : Nat} {cs : Array Value} {t : TypeId} (hne : b ≠ b') : ∀ (vs : List Value) (o : Nat) (w : World), Blk w b cs t → Blk (w.setCells b' o vs) b cs t
  | [], _, _, h => h
  | v :: r, o, _, h => Blk.cellsOther hne r (o + 1) _ (h.setOther v hne)
theorem below_setCells {B : Nat} {a : World} {b : Nat} (hB : B ≤ b) : ∀ (vs : List Value) (o : Nat) (w : World), Below B a w → Below B a (w.setCells b o vs)
  | [], _, _, h => h
  | v :: r, o, _, h => below_setCells hB r (o + 1) _ (h.setCell (p := ⟨b, o, none⟩) hB v)
theorem below_drewN {B : Nat} {a w : World} (n : Nat) (h : Below B a w) : Below B a (w.drewN n) := ⟨h.os, h.tape, h.output, h.size, h.block⟩
theorem below_row {B : Nat} {a w : World} {b : Nat} (h : Below B a w) (hB : B ≤ b) (cs : Array Value) : Below B a (w.setRow b cs) :=
  h.trans ⟨rfl, rfl, rfl, by simp, fun k hk => setRow_other w b k cs (by omega)⟩
theorem Blk.size_le {w : World} {b : Nat} {cs : Array Value} {t : TypeId} (h : Blk w b cs t) : b + 1 ≤ w.heap.size := h.lt

/-- A part of a block, read as a value: at a plain region's list; the same inside a fence. -/
theorem wpList_load_part {P : Program} {ops : Array Oper} {rest : List Oper} {op : Oper} {a : Act} {w : World} {Q : Exit → Act → World → Prop} (hgd : op.guard = none) (ty : TypeId) (x : Operand) (ho : op.op = .load ty x)
    (b o : Nat) (hx : a.eval x = .pointer (some ⟨b, o, none⟩)) (vs : Array Value) (d : TypeDesc) (hc : w.rangeAt b o vs.toList)
    (hu : P.underlying ty = some d) (hd : d.isRow = true) (hi : (P.info? ty).map (·.size) = some vs.size)
    (h : wpList P ops Q rest (a.put op.dst (.agg vs)) w) : wpList P ops Q (op :: rest) a w :=
  wpList_load_mid hgd ty x ho b o hx vs.toList d hc hu hd (by simpa using hi) (by simpa using h)
theorem run_loadAt_part {P : Program} (w : World) (b o : Nat) (ty : TypeId) (vs : Array Value) (d : TypeDesc) (hc : w.rangeAt b o vs.toList)
    (hu : P.underlying ty = some d) (hd : d.isRow = true) (hi : (P.info? ty).map (·.size) = some vs.size) :
    (Instr.loadAt ty (.pointer (some ⟨b, o, none⟩))).run P w = .ok (.agg vs) w := by
  have := run_loadAt_mid w b o ty vs.toList d hc hu hd (by simpa using hi)
  simpa using this
theorem Blk.whole {w : World} {b : Nat} {cs : Array Value} {t : TypeId} (h : Blk w b cs t) : w.rangeAt b 0 cs.toList := h.range 0 (fun j _ => by rw [Nat.zero_add])

/-! Looking a block up in a world that is written out: for `simp (disch := omega) only [heapLook]`-like calls. -/
theorem look_alloc_new (w : World) (o : Obj) (k : Nat) (h : k = w.heap.size) : (w.alloc o).heap[k]? = some o := by rw [heap_alloc, if_pos h]
theorem look_alloc_old (w : World) (o : Obj) (k : Nat) (h : k ≠ w.heap.size) : (w.alloc o).heap[k]? = w.heap[k]? := by rw [heap_alloc, if_neg h]
theorem look_set_other (w : World) (b i : Nat) (v : Value) (k : Nat) (h : k ≠ b) : (w.setCell ⟨b, i, none⟩ v).heap[k]? = w.heap[k]? := heap_setCell_other w ⟨b, i, none⟩ k v h
theorem look_row_other (w : World) (b : Nat) (cs : Array Value) (k : Nat) (h : k ≠ b) : (w.setRow b cs).heap[k]? = w.heap[k]? := setRow_other w b k cs h
theorem size_setCells (b : Nat) : ∀ (vs : List Value) (o : Nat) (w : World), (w.setCells b o vs).heap.size = w.heap.size
  | [], _, _ => rfl
  | v :: r, o, w => (size_setCells b r (o + 1) _).trans (by simp [World.setCell])
theorem look_cells_other (b k : Nat) (h : k ≠ b) : ∀ (vs : List Value) (o : Nat) (w : World), (w.setCells b o vs).heap[k]? = w.heap[k]?
  | [], _, _ => rfl
  | v :: r, o, w => (look_cells_other b k h r (o + 1) _).trans (look_set_other w b o v k h)

/-! THE CALL's OWN MEMORY AS A LIST OF BLOCKS: since w0 nothing that was there has turned, and the blocks of the list are new, apart, and known whole. -/
structure Ent where
  b : Nat
  cs : Array Value
  t : TypeId
structure Mem (w0 w : World) (L : List Ent) : Prop where
  below : Below w0.heap.size w0 w
  blk : ∀ (i : Nat) (e : Ent), L[i]? = some e → w0.heap.size ≤ e.b ∧ Blk w e.b e.cs e.t
  apart : ∀ (i j : Nat) (e e' : Ent), L[i]? = some e → L[j]? = some e' → i ≠ j → e.b ≠ e'.b
theorem Mem.nil (w : World) : Mem w w [] := ⟨Below.refl _ _, fun _ _ h => by simp at h, fun _ _ _ _ h => by simp at h⟩
theorem Mem.alloc {w0 w : World} {L : List Ent} (H : Mem w0 w L) (cs : Array Value) (t : TypeId) : Mem w0 (w.alloc (.cells cs t)) (L ++ [⟨w.heap.size, cs, t⟩]) := by
  refine ⟨H.below.alloc H.below.size _, fun i e h => ?_, fun i j e e' h h' hij => ?_⟩
  · rw [List.getElem?_append] at h
    split at h
    · exact ⟨(H.blk i e h).1, (H.blk i e h).2.alloc _⟩
    · have : e = ⟨w.heap.size, cs, t⟩ := by
        rcases hk : i - L.length with _ | k
        · rw [hk] at h; simpa using h.symm
        · rw [hk] at h; simp at h
      subst this
      exact ⟨H.below.size, Blk.new _ _ _⟩
  · rw [List.getElem?_append] at h h'
    split at h <;> split at h'
    · exact H.apart i j e e' h h' hij
    · have h1 := (H.blk i e h).2.lt
      have : e' = ⟨w.heap.size, cs, t⟩ := by
        rcases hk : j - L.length with _ | k
        · rw [hk] at h'; simpa using h'.symm
        · rw [hk] at h'; simp at h'
      subst this
      exact Nat.ne_of_lt h1
    · have h1 := (H.blk j e' h').2.lt
      have : e = ⟨w.heap.size, cs, t⟩ := by
        rcases hk : i - L.length with _ | k
        · rw [hk] at h; simpa using h.symm
        · rw [hk] at h; simp at h
      subst this
      exact Nat.ne_of_gt h1
    · exfalso
      rcases hk : i - L.length with _ | k
      · rcases hk' : j - L.length with _ | k'
        · omega
        · rw [hk'] at h'; simp at h'
      · rw [hk] at h; simp at h
/-- A block that is no row of cells (a map). -/
theorem Mem.other {w0 w : World} {L : List Ent} (H : Mem w0 w L) (o : Obj) : Mem w0 (w.alloc o) L :=
  ⟨H.below.alloc H.below.size _, fun i e h => ⟨(H.blk i e h).1, (H.blk i e h).2.alloc _⟩, H.apart⟩
theorem Mem.at {w0 w : World} {L : List Ent} (H : Mem w0 w L) (i : Nat) {b : Nat} {cs : Array Value} {t : TypeId} (h : L[i]? = some ⟨b, cs, t⟩) : Blk w b cs t := (H.blk i _ h).2
theorem Mem.ge {w0 w : World} {L : List Ent} (H : Mem w0 w L) (i : Nat) {b : Nat} {cs : Array Value} {t : TypeId} (h : L[i]? = some ⟨b, cs, t⟩) : w0.heap.size ≤ b := (H.blk i _ h).1
theorem Mem.call {w0 w w' : World} {L : List Ent} (H : Mem w0 w L) (hb : Below w.heap.size w w') : Mem w0 w' L :=
  ⟨H.below.trans (hb.mono H.below.size), fun i e h => ⟨(H.blk i e h).1, (H.blk i e h).2.later hb⟩, H.apart⟩
theorem Mem.drew {w0 w : World} {L : List Ent} (H : Mem w0 w L) : Mem w0 w.drew L := ⟨H.below.drew, fun i e h => ⟨(H.blk i e h).1, (H.blk i e h).2⟩, H.apart⟩
theorem Mem.drewN {w0 w : World} {L : List Ent} (H : Mem w0 w L) (n : Nat) : Mem w0 (w.drewN n) L := ⟨below_drewN n H.below, fun i e h => ⟨(H.blk i e h).1, (H.blk i e h).2⟩, H.apart⟩
theorem Mem.put {w0 w w' : World} {L : List Ent} (H : Mem w0 w L) (i : Nat) {e : Ent} (cs' : Array Value) (h : L[i]? = some e) (hb : Below w0.heap.size w0 w') (hn : Blk w' e.b cs' e.t)
    (ho : ∀ b cs t, b ≠ e.b → Blk w b cs t → Blk w' b cs t) : Mem w0 w' (L.set i ⟨e.b, cs', e.t⟩) := by
  have key : ∀ j x, (L.set i ⟨e.b, cs', e.t⟩)[j]? = some x → (j = i ∧ x = ⟨e.b, cs', e.t⟩) ∨ (j ≠ i ∧ L[j]? = some x) := fun j x hx => by
    rw [List.getElem?_set] at hx
    split at hx
    · rename_i hij
      split at hx
      · exact .inl ⟨hij.symm, by simpa using hx.symm⟩
      · simp at hx
    · rename_i hij
      exact .inr ⟨fun c => hij c.symm, hx⟩
  refine ⟨hb, fun j x hx => ?_, fun j k x y hx hy hjk => ?_⟩
  · rcases key j x hx with ⟨_, rfl⟩ | ⟨hji, hx'⟩
    · exact ⟨(H.blk i e h).1, hn⟩
    · exact ⟨(H.blk j x hx').1, ho _ _ _ (H.apart j i x e hx' h hji) (H.blk j x hx').2⟩
  · rcases key j x hx with ⟨hj, hx'⟩ | ⟨hji, hx'⟩ <;> rcases key k y hy with ⟨hk, hy'⟩ | ⟨hki, hy'⟩
    · exact absurd (hj.trans hk.symm) hjk
    · subst hx'; exact H.apart i k e y h hy' (fun c => hki c.symm)
    · subst hy'; exact H.apart j i x e hx' h hji
    · exact H.apart j k x y hx' hy' hjk
theorem Mem.set {w0 w : World} {L : List Ent} (H : Mem w0 w L) (i off : Nat) (v : Value) {b : Nat} {cs : Array Value} {t : TypeId} (h : L[i]? = some ⟨b, cs, t⟩) (cs' : Array Value) (hcs : cs.setIfInBounds off v = cs') :
    Mem w0 (w.setCell ⟨b, off, none⟩ v) (L.set i ⟨b, cs', t⟩) :=
  H.put i cs' h (H.below.setCell (p := ⟨b, off, none⟩) (H.blk i _ h).1 v) (hcs ▸ (H.blk i _ h).2.set off v) (fun _ _ _ hne hb => hb.setOther v hne)
theorem Mem.row {w0 w : World} {L : List Ent} (H : Mem w0 w L) (i : Nat) {b : Nat} {cs : Array Value} {t : TypeId} (h : L[i]? = some ⟨b, cs, t⟩) (cs' : Array Value) : Mem w0 (w.setRow b cs') (L.set i ⟨b, cs', t⟩) :=
  H.put i cs' h (below_row H.below (H.blk i _ h).1 cs') ((H.blk i _ h).2.row cs') (fun _ _ _ hne hb => hb.rowOther cs' hne)
theorem Mem.cells {w0 w : World} {L : List Ent} (H : Mem w0 w L) (i o : Nat) (vs : List Value) {b : Nat} {cs : Array Value} {t : TypeId} (h : L[i]? = some ⟨b, cs, t⟩) (cs' : Array Value) (hn : Blk (w.setCells b o vs) b cs' t) :
    Mem w0 (w.setCells b o vs) (L.set i ⟨b, cs', t⟩) :=
  H.put i cs' h (below_setCells (H.blk i _ h).1 vs o w H.below) hn (fun _ _ _ hne hb => Blk.cellsOther hne vs o w hb)
theorem Mem.out {w0 w : World} {L : List Ent} (H : Mem w0 w L) : Below w0.heap.size w0 w := H.below
theorem open1 (w : World) (c1 : Array Value) (t1 : TypeId) : ∃ W, w.alloc (.cells c1 t1) = W ∧ Mem w W [⟨w.heap.size, c1, t1⟩] := ⟨_, rfl, (Mem.nil w).alloc c1 t1⟩
theorem open2 (w : World) (c1 : Array Value) (t1 : TypeId) (c2 : Array Value) (t2 : TypeId) : ∃ W, (w.alloc (.cells c1 t1)).alloc (.cells c2 t2) = W ∧ Mem w W [⟨w.heap.size, c1, t1⟩, ⟨w.heap.size + 1, c2, t2⟩] := by
  have h := ((Mem.nil w).alloc c1 t1).alloc c2 t2
  simp only [World.size_alloc, List.nil_append, List.cons_append] at h
  exact ⟨_, rfl, h⟩
theorem open3 (w : World) (c1 : Array Value) (t1 : TypeId) (c2 : Array Value) (t2 : TypeId) (c3 : Array Value) (t3 : TypeId) :
    ∃ W, ((w.alloc (.cells c1 t1)).alloc (.cells c2 t2)).alloc (.cells c3 t3) = W ∧ Mem w W [⟨w.heap.size, c1, t1⟩, ⟨w.heap.size + 1, c2, t2⟩, ⟨w.heap.size + 1 + 1, c3, t3⟩] := by
  have h := (((Mem.nil w).alloc c1 t1).alloc c2 t2).alloc c3 t3
  simp only [World.size_alloc, List.nil_append, List.cons_append] at h
  exact ⟨_, rfl, h⟩

/-- A row of n integers of one kind, by a function. -/
def acells (k : IntKind) (n : Nat) (f : Nat → Int) : Array Value := ((List.range n).map fun i => Value.int k (f i)).toArray
theorem acells_size (k : IntKind) (n : Nat) (f : Nat → Int) : (acells k n f).size = n := by simp [acells]
theorem acells_get (k : IntKind) (n : Nat) (f : Nat → Int) (i : Nat) (h : i < n) : (acells k n f)[i]? = some (.int k (f i)) := by simp [acells, h]
theorem acells_one (k : IntKind) (n : Nat) (f : Nat → Int) : (acells k n f).all (·.oneCell') = true := by
  rw [Array.all_eq_true_iff_forall_mem]; intro v hv; simp [acells] at hv; obtain ⟨i, _, rfl⟩ := hv; rfl
theorem acells_ext {k : IntKind} {n : Nat} {f : Nat → Int} {cs : Array Value} (hs : cs.size = n) (h : ∀ i, i < n → cs[i]? = some (.int k (f i))) : cs = acells k n f := by
  apply Array.ext_getElem?
  intro j
  by_cases hj : j < n
  · rw [h j hj, acells_get _ _ _ _ hj]
  · rw [Array.getElem?_eq_none (by omega), Array.getElem?_eq_none (by rw [acells_size]; omega)]
theorem acells_set (k : IntKind) (n : Nat) (f : Nat → Int) (i : Nat) (v : Int) (h : i < n) : (acells k n f).setIfInBounds i (.int k v) = acells k n (fun j => if j = i then v else f j) := by
  refine acells_ext (by simp [acells_size]) (fun j hj => ?_)
  rw [Array.getElem?_setIfInBounds, acells_get _ _ _ _ hj, acells_size]
  by_cases e : i = j
  · subst e; simp [h]
  · have e' : ¬ j = i := fun x => e x.symm
    simp [e, e']
theorem acells_congr {k : IntKind} {n : Nat} {f g : Nat → Int} (h : ∀ i, i < n → f i = g i) : acells k n f = acells k n g := by
  unfold acells; congr 1; apply List.map_congr_left; intro i hi; rw [h i (by simpa using hi)]
theorem acells_inj {k : IntKind} {n : Nat} {f g : Nat → Int} (h : acells k n f = acells k n g) : ∀ i, i < n → f i = g i := fun i hi => by
  have := congrArg (fun a => a[i]?) h
  simp only [acells_get _ _ _ _ hi] at this
  simpa using this

theorem upto_succ {p : Nat → Prop} {k : Nat} (h : ∀ i, i < k → p i) (hk : p k) : ∀ i, i < k + 1 → p i := fun i hi => by
  by_cases e : i = k
  · subst e; exact hk
  · exact h i (by omega)
/-- All numbers below n. -/
def allTo (n : Nat) (p : Nat → Bool) : Bool := (List.range n).all p
theorem allTo_iff {n : Nat} {p : Nat → Bool} : allTo n p = true ↔ ∀ i, i < n → p i = true := by
  unfold allTo; rw [List.all_eq_true]; exact ⟨fun h i hi => h i (List.mem_range.2 hi), fun h i hi => h i (List.mem_range.1 hi)⟩
theorem allTo_false {n : Nat} {p : Nat → Bool} {i : Nat} (hi : i < n) (h : p i = false) : allTo n p = false := by
  cases e : allTo n p with
  | false => rfl
  | true => rw [allTo_iff.1 e i hi] at h; cases h
theorem allTo_congr {n : Nat} {p q : Nat → Bool} (h : ∀ i, i < n → p i = q i) : allTo n p = allTo n q := by
  rw [Bool.eq_iff_iff, allTo_iff, allTo_iff]
  exact ⟨fun k i hi => (h i hi) ▸ k i hi, fun k i hi => (h i hi) ▸ k i hi⟩

theorem ret_int {k : IntKind} {a b : Int} (h : a = b) : Ending.returned (.int k a) = .returned (.int k b) := by rw [h]
theorem ret_bool {a b : Bool} (h : a = b) : Ending.returned (.bool a) = .returned (.bool b) := by rw [h]
theorem ret_agg {a b : Array Value} (h : a = b) : Ending.returned (.agg a) = .returned (.agg b) := by rw [h]
end
section
open Go Go.RowKit

theorem semAt_plain (r : Option Nat) (ρ : Operand → Value) (o : Oper) (h : ∀ c, o.op ≠ .defer c) : o.semAt r ρ = execOp ρ o := by
  cases r with
  | none => exact Oper.semAt_none ρ o
  | some l => exact Oper.semAt_some l ρ o h
theorem stepIn {F : Fence} {n : Nat} {P : Program} {ops : Array Oper} {Q : Exit → Act → World → Prop} {rest : List Oper} {o : Oper} {a : Act} {w w' : World} {v : Value} (hF : ∀ k, F.fn k) (hgd : o.guard = none) (hnd : ∀ c, o.op ≠ .defer c)
    (hr : (execOp a.eval o).run P w = .ok (.value v) w') (h : wpListIn F n P ops Q rest (a.put o.dst v) w') : wpListIn F n P ops Q (o :: rest) a w := by
  refine wpListIn_plain hgd fun K hK => ?_
  unfold Oper.wpIn
  refine ⟨fun f _ => hF f, ?_⟩
  rw [semAt_plain _ _ _ hnd, hr]
  exact hK _ _ h
theorem skipIn {F : Fence} {n : Nat} {P : Program} {ops : Array Oper} {Q : Exit → Act → World → Prop} {rest : List Oper} {o : Oper} {a : Act} {w w' : World} (hF : ∀ k, F.fn k) (hgd : o.guard = none) (hnd : ∀ c, o.op ≠ .defer c)
    (hr : (execOp a.eval o).run P w = .ok .skip w') (h : wpListIn F n P ops Q rest (a.put o.dst undef) w') : wpListIn F n P ops Q (o :: rest) a w := by
  refine wpListIn_plain hgd fun K hK => ?_
  unfold Oper.wpIn
  refine ⟨fun f _ => hF f, ?_⟩
  rw [semAt_plain _ _ _ hnd, hr]
  exact hK _ _ h
theorem loadIn {F : Fence} {n : Nat} {P : Program} {ops : Array Oper} {Q : Exit → Act → World → Prop} {rest : List Oper} {op : Oper} {a : Act} {w : World} (hF : ∀ k, F.fn k) (hgd : op.guard = none) (ty : TypeId) (x : Operand) (ho : op.op = .load ty x)
    (b o : Nat) (hx : a.eval x = .pointer (some ⟨b, o, none⟩)) (vs : Array Value) (d : TypeDesc) (hc : w.rangeAt b o vs.toList)
    (hu : P.underlying ty = some d) (hd : d.isRow = true) (hi : (P.info? ty).map (·.size) = some vs.size)
    (h : wpListIn F n P ops Q rest (a.put op.dst (.agg vs)) w) : wpListIn F n P ops Q (op :: rest) a w := by
  refine stepIn hF hgd (fun c e => by rw [ho] at e; cases e) ?_ h
  unfold execOp
  simp only [ho, hx, Sem.run_bind, run_loadAt_part w b o ty vs d hc hu hd hi, Result.andThen_ok, Sem.run_pure]
theorem storeIn {F : Fence} {n : Nat} {P : Program} {ops : Array Oper} {Q : Exit → Act → World → Prop} {rest : List Oper} {op : Oper} {a : Act} {w : World} (hF : ∀ k, F.fn k) (hgd : op.guard = none) (ty : TypeId) (x y : Operand) (ho : op.op = .store ty x y)
    (b o : Nat) (cells : Array Value) (hx : a.eval x = .pointer (some ⟨b, o, none⟩)) (hy : a.eval y = .agg cells)
    (ht : w.there b o cells.size) (hi : (P.info? ty).map (·.size) = some cells.size) (h1 : cells.all (·.oneCell') = true)
    (h : wpListIn F n P ops Q rest (a.put op.dst undef) (w.setCells b o cells.toList)) : wpListIn F n P ops Q (op :: rest) a w := by
  refine skipIn hF hgd (fun c e => by rw [ho] at e; cases e) ?_ h
  unfold execOp
  simp only [ho, hx, hy, Sem.run_bind, run_storeAt_mid w b o ty cells ht hi h1, Result.andThen_ok, Sem.run_pure]
theorem buildIn {F : Fence} {n : Nat} {P : Program} {ops : Array Oper} {Q : Exit → Act → World → Prop} {rest : List Oper} {op : Oper} {a : Act} {w : World} (hF : ∀ k, F.fn k) (hgd : op.guard = none) (t : TypeId) (parts : Array (Nat × Operand)) (ho : op.op = .build t parts)
    (ps : Array (Nat × Value)) (hp : parts.map (fun (i, x) => (i, a.eval x)) = ps) (v : Value) (hr : (Instr.build t ps).run P w = .ok v w)
    (h : wpListIn F n P ops Q rest (a.put op.dst v) w) : wpListIn F n P ops Q (op :: rest) a w := by
  refine stepIn hF hgd (fun c e => by rw [ho] at e; cases e) ?_ h
  unfold execOp
  simp only [ho, hp, Sem.run_bind, hr, Result.andThen_ok, Sem.run_pure]
theorem run_eql_agg {P : Program} (t : TypeId) (xs ys : Array Value) (r : Bool) (w : World) (x y : Operand) (hm : P.eqGuardType P.depth t = false) (hr : (Op.equalIn 10000 t (.agg xs) (.agg ys)).run P w = .ok r w) :
    (do eqGuard .eql t x y (.agg xs) (.agg ys); binOp .eql t (.agg xs) (.agg ys) : Sem Value).run P w = .ok (.bool r) w := by
  rw [Sem.run_bind, run_eqGuard_agg w .eql t x y xs ys hm, Result.andThen_ok, run_eql_struct w t xs ys, hr]
  rfl
theorem eqlIn {F : Fence} {n : Nat} {P : Program} {ops : Array Oper} {Q : Exit → Act → World → Prop} {rest : List Oper} {op : Oper} {a : Act} {w : World} (hF : ∀ k, F.fn k) (hgd : op.guard = none) (t t' : TypeId) (x y : Operand) (ho : op.op = .binOp .eql t x y t')
    (xs ys : Array Value) (hx : a.eval x = .agg xs) (hy : a.eval y = .agg ys) (hm : P.eqGuardType P.depth t = false) (r : Bool) (hr : (Op.equalIn 10000 t (.agg xs) (.agg ys)).run P w = .ok r w)
    (h : wpListIn F n P ops Q rest (a.put op.dst (.bool r)) w) : wpListIn F n P ops Q (op :: rest) a w := by
  refine stepIn hF hgd (fun c e => by rw [ho] at e; cases e) ?_ h
  unfold execOp
  simp only [ho, hx, hy]
  rw [Sem.run_bind, run_eql_agg t xs ys r w x y hm hr, Result.andThen_ok, Sem.run_pure]
theorem wpList_run {P : Program} {ops : Array Oper} {Q : Exit → Act → World → Prop} {rest : List Oper} {o : Oper} {a : Act} {w w' : World} {v : Value} (hgd : o.guard = none)
    (hr : (execOp a.eval o).run P w = .ok (.value v) w') (h : wpList P ops Q rest (a.put o.dst v) w') : wpList P ops Q (o :: rest) a w := by
  refine wpList_plain hgd fun K hK => ?_
  unfold Oper.wp
  rw [hr]
  exact hK _ _ h
theorem wpList_eql {P : Program} {ops : Array Oper} {Q : Exit → Act → World → Prop} {rest : List Oper} {op : Oper} {a : Act} {w : World} (hgd : op.guard = none) (t t' : TypeId) (x y : Operand) (ho : op.op = .binOp .eql t x y t')
    (xs ys : Array Value) (hx : a.eval x = .agg xs) (hy : a.eval y = .agg ys) (hm : P.eqGuardType P.depth t = false) (r : Bool) (hr : (Op.equalIn 10000 t (.agg xs) (.agg ys)).run P w = .ok r w)
    (h : wpList P ops Q rest (a.put op.dst (.bool r)) w) : wpList P ops Q (op :: rest) a w := by
  refine wpList_run hgd ?_ h
  unfold execOp
  simp only [ho, hx, hy]
  rw [Sem.run_bind, run_eql_agg t xs ys r w x y hm hr, Result.andThen_ok, Sem.run_pure]
/-- A guarded load of a whole row. -/
theorem wpList_load_wanted {P : Program} {ops : Array Oper} {rest : List Oper} {op : Oper} {a : Act} {w : World} {Q : Exit → Act → World → Prop} (hw : Region.wanted op (yielded ops a.tmps) = true) (ty : TypeId) (x : Operand) (ho : op.op = .load ty x)
    (b o : Nat) (hx : a.eval x = .pointer (some ⟨b, o, none⟩)) (vs : Array Value) (d : TypeDesc) (hc : w.rangeAt b o vs.toList)
    (hu : P.underlying ty = some d) (hd : d.isRow = true) (hi : (P.info? ty).map (·.size) = some vs.size)
    (h : wpList P ops Q rest (a.put op.dst (.agg vs)) w) : wpList P ops Q (op :: rest) a w :=
  wpList_step fun K hK => by
    rw [if_pos hw]
    exact wp_load_mid ty x ho b o hx vs.toList d hc hu hd (by simpa using hi) (by simpa using hK _ _ h)
/-- A whole block stored anew. -/
theorem Blk.over {w : World} {b : Nat} {cs : Array Value} {t : TypeId} (h : Blk w b cs t) (cs' : Array Value) (hs : cs'.size = cs.size) : Blk (w.setCells b 0 cs'.toList) b cs' t := by
  obtain ⟨c2, h1, h2, h3⟩ := Blk.cells cs'.toList cs 0 w h
  have e : c2 = cs' := by
    apply Array.ext_getElem?
    intro j
    rw [h3 j]
    by_cases hj : j < cs.size
    · rw [if_pos (by simp [hs]; exact hj), Nat.sub_zero, Array.getElem?_toList]
    · rw [if_neg (by omega), Array.getElem?_eq_none (by omega), Array.getElem?_eq_none (by omega)]
  exact e ▸ h1
end
section
open Go Go.RowKit

/-- The data of a field: its sizes, and for each number the kind and the seeds. -/
structure Fd where
  W : Int
  H : Int
  K : Nat → Int
  S : Nat → Int

def fcell (f : Fd) (i : Nat) : Value := if i = 0 then .int .i8 f.W else if i = 1 then .int .i8 f.H else if i < 102 then .int .u8 (f.K (i - 2)) else .int .i16 (f.S (i - 102))
def fcells (f : Fd) : Array Value := ((List.range 202).map (fcell f)).toArray
theorem fcells_size (f : Fd) : (fcells f).size = 202 := by simp [fcells]
theorem fcells_get (f : Fd) (i : Nat) (h : i < 202) : (fcells f)[i]? = some (fcell f i) := by simp [fcells, h]
theorem fcells_0 (f : Fd) : (fcells f)[0]? = some (.int .i8 f.W) := fcells_get f 0 (by omega)
theorem fcells_1 (f : Fd) : (fcells f)[1]? = some (.int .i8 f.H) := fcells_get f 1 (by omega)
theorem fcells_K (f : Fd) (i : Nat) (h : i < 100) : (fcells f)[2 + i]? = some (.int .u8 (f.K i)) := by
  rw [fcells_get f _ (by omega)]; unfold fcell
  rw [if_neg (by omega), if_neg (by omega), if_pos (by omega)]; congr 3; omega
theorem fcells_S (f : Fd) (i : Nat) (h : i < 100) : (fcells f)[102 + i]? = some (.int .i16 (f.S i)) := by
  rw [fcells_get f _ (by omega)]; unfold fcell
  rw [if_neg (by omega), if_neg (by omega), if_neg (by omega)]; congr 3; omega
theorem fcells_ext {f : Fd} {cs : Array Value} (hs : cs.size = 202) (h0 : cs[0]? = some (.int .i8 f.W)) (h1 : cs[1]? = some (.int .i8 f.H))
    (hK : ∀ i, i < 100 → cs[2 + i]? = some (.int .u8 (f.K i))) (hS : ∀ i, i < 100 → cs[102 + i]? = some (.int .i16 (f.S i))) : cs = fcells f := by
  apply Array.ext_getElem?
  intro j
  by_cases hj : j < 202
  · by_cases e0 : j = 0
    · subst e0; rw [h0, fcells_0]
    · by_cases e1 : j = 1
      · subst e1; rw [h1, fcells_1]
      · by_cases e2 : j < 102
        · obtain ⟨i, rfl⟩ : ∃ i, j = 2 + i := ⟨j - 2, by omega⟩
          rw [hK i (by omega), fcells_K f i (by omega)]
        · obtain ⟨i, rfl⟩ : ∃ i, j = 102 + i := ⟨j - 102, by omega⟩
          rw [hS i (by omega), fcells_S f i (by omega)]
  · rw [Array.getElem?_eq_none (by omega), Array.getElem?_eq_none (by rw [fcells_size]; omega)]
theorem fcells_one (f : Fd) : (fcells f).all (·.oneCell') = true := by
  rw [Array.all_eq_true_iff_forall_mem]; intro v hv; simp [fcells] at hv; obtain ⟨i, _, rfl⟩ := hv
  unfold fcell; repeat' split
  all_goals rfl
theorem fcells_congr {f g : Fd} (h0 : f.W = g.W) (h1 : f.H = g.H) (hK : ∀ i, i < 100 → f.K i = g.K i) (hS : ∀ i, i < 100 → f.S i = g.S i) : fcells f = fcells g :=
  fcells_ext (fcells_size f) (by rw [fcells_0, h0]) (by rw [fcells_1, h1]) (fun i hi => by rw [fcells_K f i hi, hK i hi]) (fun i hi => by rw [fcells_S f i hi, hS i hi])
theorem fcells_inj {f g : Fd} (h : fcells f = fcells g) : f.W = g.W ∧ f.H = g.H ∧ (∀ i, i < 100 → f.K i = g.K i) ∧ (∀ i, i < 100 → f.S i = g.S i) := by
  refine ⟨?_, ?_, fun i hi => ?_, fun i hi => ?_⟩
  · have := congrArg (fun a => a[0]?) h; simp only [fcells_0] at this; simpa using this
  · have := congrArg (fun a => a[1]?) h; simp only [fcells_1] at this; simpa using this
  · have := congrArg (fun a => a[2 + i]?) h; simp only [fcells_K _ i hi] at this; simpa using this
  · have := congrArg (fun a => a[102 + i]?) h; simp only [fcells_S _ i hi] at this; simpa using this

def Fd.setW (f : Fd) (v : Int) : Fd := { f with W := v }
def Fd.setH (f : Fd) (v : Int) : Fd := { f with H := v }
def Fd.setK (f : Fd) (i : Nat) (v : Int) : Fd := { f with K := fun j => if j = i then v else f.K j }
def Fd.setS (f : Fd) (i : Nat) (v : Int) : Fd := { f with S := fun j => if j = i then v else f.S j }
theorem fcells_setW (f : Fd) (v : Int) : (fcells f).setIfInBounds 0 (.int .i8 v) = fcells (f.setW v) := by
  refine fcells_ext (by simp [fcells_size]) ?_ ?_ (fun i hi => ?_) (fun i hi => ?_)
  · rw [Array.getElem?_setIfInBounds, if_pos rfl, if_pos (by rw [fcells_size]; omega)]; rfl
  · rw [Array.getElem?_setIfInBounds, if_neg (by omega), fcells_1]; rfl
  · rw [Array.getElem?_setIfInBounds, if_neg (by omega), fcells_K f i hi]; rfl
  · rw [Array.getElem?_setIfInBounds, if_neg (by omega), fcells_S f i hi]; rfl
theorem fcells_setH (f : Fd) (v : Int) : (fcells f).setIfInBounds 1 (.int .i8 v) = fcells (f.setH v) := by
  refine fcells_ext (by simp [fcells_size]) ?_ ?_ (fun i hi => ?_) (fun i hi => ?_)
  · rw [Array.getElem?_setIfInBounds, if_neg (by omega), fcells_0]; rfl
  · rw [Array.getElem?_setIfInBounds, if_pos rfl, if_pos (by rw [fcells_size]; omega)]; rfl
  · rw [Array.getElem?_setIfInBounds, if_neg (by omega), fcells_K f i hi]; rfl
  · rw [Array.getElem?_setIfInBounds, if_neg (by omega), fcells_S f i hi]; rfl
theorem fcells_setK (f : Fd) (k : Nat) (v : Int) (hk : k < 100) : (fcells f).setIfInBounds (2 + k) (.int .u8 v) = fcells (f.setK k v) := by
  refine fcells_ext (by simp [fcells_size]) ?_ ?_ (fun i hi => ?_) (fun i hi => ?_)
  · rw [Array.getElem?_setIfInBounds, if_neg (by omega), fcells_0]; rfl
  · rw [Array.getElem?_setIfInBounds, if_neg (by omega), fcells_1]; rfl
  · rw [Array.getElem?_setIfInBounds, fcells_K f i hi, fcells_size]; show _ = some (Value.int .u8 (if i = k then v else f.K i))
    by_cases e : i = k
    · subst e; rw [if_pos rfl, if_pos (by omega), if_pos rfl]
    · rw [if_neg (by omega), if_neg e]
  · rw [Array.getElem?_setIfInBounds, if_neg (by omega), fcells_S f i hi]; rfl
theorem fcells_setS (f : Fd) (k : Nat) (v : Int) (hk : k < 100) : (fcells f).setIfInBounds (102 + k) (.int .i16 v) = fcells (f.setS k v) := by
  refine fcells_ext (by simp [fcells_size]) ?_ ?_ (fun i hi => ?_) (fun i hi => ?_)
  · rw [Array.getElem?_setIfInBounds, if_neg (by omega), fcells_0]; rfl
  · rw [Array.getElem?_setIfInBounds, if_neg (by omega), fcells_1]; rfl
  · rw [Array.getElem?_setIfInBounds, if_neg (by omega), fcells_K f i hi]; rfl
  · rw [Array.getElem?_setIfInBounds, fcells_S f i hi, fcells_size]; show _ = some (Value.int .i16 (if i = k then v else f.S i))
    by_cases e : i = k
    · subst e; rw [if_pos rfl, if_pos (by omega), if_pos rfl]
    · rw [if_neg (by omega), if_neg e]

/-- The kinds, the seeds, as a part of the cells. -/
theorem Blk.kinds {w : World} {b : Nat} {f : Fd} {t : TypeId} (h : Blk w b (fcells f) t) : w.rangeAt b 2 (acells .u8 100 f.K).toList :=
  h.range 2 (fun j hj => by rw [acells_size] at hj; rw [fcells_K f j hj, acells_get _ _ _ _ hj])
theorem Blk.seeds {w : World} {b : Nat} {f : Fd} {t : TypeId} (h : Blk w b (fcells f) t) : w.rangeAt b 102 (acells .i16 100 f.S).toList :=
  h.range 102 (fun j hj => by rw [acells_size] at hj; rw [fcells_S f j hj, acells_get _ _ _ _ hj])
theorem Blk.setKinds {w : World} {b : Nat} {f : Fd} {t : TypeId} (h : Blk w b (fcells f) t) (g : Nat → Int) : Blk (w.setCells b 2 (acells .u8 100 g).toList) b (fcells { f with K := g }) t := by
  obtain ⟨cs', h1, h2, h3⟩ := Blk.cells (acells .u8 100 g).toList (fcells f) 2 w h
  have e : cs' = fcells { f with K := g } := by
    rw [fcells_size] at h2
    refine fcells_ext h2 ?_ ?_ (fun i hi => ?_) (fun i hi => ?_)
    · rw [h3, if_neg (by omega), fcells_0]
    · rw [h3, if_neg (by omega), fcells_1]
    · rw [h3, if_pos (by simp [acells_size, fcells_size]; omega), show 2 + i - 2 = i by omega, Array.getElem?_toList, acells_get _ _ _ _ hi]
    · rw [h3, if_neg (by simp [acells_size]; omega), fcells_S f i hi]
  rw [← e]; exact h1
theorem Blk.setSeeds {w : World} {b : Nat} {f : Fd} {t : TypeId} (h : Blk w b (fcells f) t) (g : Nat → Int) : Blk (w.setCells b 102 (acells .i16 100 g).toList) b (fcells { f with S := g }) t := by
  obtain ⟨cs', h1, h2, h3⟩ := Blk.cells (acells .i16 100 g).toList (fcells f) 102 w h
  have e : cs' = fcells { f with S := g } := by
    rw [fcells_size] at h2
    refine fcells_ext h2 ?_ ?_ (fun i hi => ?_) (fun i hi => ?_)
    · rw [h3, if_neg (by omega), fcells_0]
    · rw [h3, if_neg (by omega), fcells_1]
    · rw [h3, if_neg (by omega), fcells_K f i hi]
    · rw [h3, if_pos (by simp [acells_size, fcells_size]; omega), show 102 + i - 102 = i by omega, Array.getElem?_toList, acells_get _ _ _ _ hi]
  rw [← e]; exact h1

/-- Each number of a field fits its kind. -/
structure Fd.Wf (f : Fd) : Prop where
  W : -128 ≤ f.W ∧ f.W ≤ 127
  H : -128 ≤ f.H ∧ f.H ≤ 127
  K : ∀ i, i < 100 → 0 ≤ f.K i ∧ f.K i ≤ 255
  S : ∀ i, i < 100 → -32768 ≤ f.S i ∧ f.S i ≤ 32767
theorem lit_i8 {n : Int} (h : -128 ≤ n ∧ n ≤ 127) : (Lit.int .i8 n).wf = true := WalkArith.wf_i8 h
theorem lit_u8 {n : Int} (h : 0 ≤ n ∧ n ≤ 255) : (Lit.int .u8 n).wf = true := WalkArith.wf_u8 h
theorem lit_i16 {n : Int} (h : -32768 ≤ n ∧ n ≤ 32767) : (Lit.int .i16 n).wf = true := WalkArith.wf_i16 h

/-- The field that is zero everywhere. -/
def Fd.zero : Fd := ⟨0, 0, fun _ => 0, fun _ => 0⟩
theorem zero_run {P : Program} {t : TypeId} {v : Value} (h : (P.info? t).map (fun i => i.zero) = some (some v)) (w : World) : (zeroValue t).run P w = .ok v w := by
  cases hq : P.info? t with
  | none => simp [hq] at h
  | some i => simp [hq] at h; simp [zeroValue, typeInfo, hq, h]
theorem zeroFd : Tryd.zeroCells30 = fcells Fd.zero := by kernel_rfl
theorem zeroK : Tryd.zeroCells23 = acells .u8 100 (fun _ => 0) := by kernel_rfl
theorem zeroS : Tryd.zeroCells25 = acells .i16 100 (fun _ => 0) := by kernel_rfl
theorem zrunF (w : World) : (zeroValue 30).run Tryd.prog w = .ok (.agg Tryd.zeroCells30) w := zero_run (by kernel_rfl) w
theorem zrunK (w : World) : (zeroValue 23).run Tryd.prog w = .ok (.agg Tryd.zeroCells23) w := zero_run (by kernel_rfl) w
theorem zrunS (w : World) : (zeroValue 25).run Tryd.prog w = .ok (.agg Tryd.zeroCells25) w := zero_run (by kernel_rfl) w
theorem sizeFd : (Tryd.prog.info? 30).map (·.size) = some 202 := by kernel_rfl
theorem sizeK : (Tryd.prog.info? 23).map (·.size) = some 100 := by kernel_rfl
theorem sizeS : (Tryd.prog.info? 25).map (·.size) = some 100 := by kernel_rfl
theorem sizeFl : (Tryd.prog.info? 27).map (·.size) = some 202 := by kernel_rfl
end
section
open Go Go.RowKit

def inB (n lo hi : Int) : Bool := decide (lo ≤ n) && decide (n ≤ hi)
theorem inB_iff {n lo hi : Int} : inB n lo hi = true ↔ lo ≤ n ∧ n ≤ hi := by simp [inB]
theorem inB_false {n lo hi : Int} (h : n < lo ∨ hi < n) : inB n lo hi = false := by
  cases e : inB n lo hi with
  | false => rfl
  | true => have := inB_iff.1 e; omega

theorem l00In_any (n lo hi : Int) (w : World) : Calls Tryd.prog 57 #[.int .i64 n, .int .i64 lo, .int .i64 hi] w fun e w' => e = .returned (.bool (inB n lo hi)) ∧ w = w' := by
  by_cases h1 : lo ≤ n
  · by_cases h2 : n ≤ hi
    · rw [inB_iff.2 ⟨h1, h2⟩]
      go_enter Tryd.func57, Tryd.ntmps57
      go_wp2_with fail
      go_ret
      exact ⟨rfl, rfl⟩
    · rw [inB_false (.inr (by omega))]
      go_enter Tryd.func57, Tryd.ntmps57
      go_wp2_with fail
      go_ret
      exact ⟨rfl, rfl⟩
  · rw [inB_false (.inl (by omega))]
    go_enter Tryd.func57, Tryd.ntmps57
    go_wp2_with fail
    go_ret
    exact ⟨rfl, rfl⟩
end
section
open Go Go.RowKit

theorem l01Kind_any (n : Int) (w : World) : Calls Tryd.prog 98 #[.int .i64 n] w fun e w' => e = .returned (.bool (inB n 0 3)) ∧ w = w' := by
  go_enter Tryd.func98, Tryd.ntmps98
  go_wp2_with (go_at_call 57; refine (l00In_any _ _ _ _).mono ?_; rintro e w' ⟨rfl, rfl⟩)
  go_ret
  exact ⟨rfl, rfl⟩
theorem l01Seeds_any (n : Int) (w : World) : Calls Tryd.prog 99 #[.int .i64 n] w fun e w' => e = .returned (.bool (inB n 0 1000)) ∧ w = w' := by
  go_enter Tryd.func99, Tryd.ntmps99
  go_wp2_with (go_at_call 57; refine (l00In_any _ _ _ _).mono ?_; rintro e w' ⟨rfl, rfl⟩)
  go_ret
  exact ⟨rfl, rfl⟩

/-- Is the number a cell of the field? -/
def isCell (f : Fd) (c : Int) : Bool := inB c 0 99 && decide (c % 10 < f.W) && decide (c / 10 < f.H)
set_option maxRecDepth 100000 in
theorem l01Is_any (f : Fd) (c : Int) (b : Nat) (w : World) (hW : -128 ≤ f.W ∧ f.W ≤ 127) (hH : -128 ≤ f.H ∧ f.H ≤ 127) (B : Blk w b (fcells f) 30) :
    Calls Tryd.prog 81 #[.pointer (some ⟨b, 0, none⟩), .int .i64 c] w fun e w' => e = .returned (.bool (isCell f c)) ∧ w = w' := by
  have c0 := B.cell (fcells_0 f)
  have c1 := B.cell (fcells_1 f)
  obtain ⟨hW1, hW2⟩ := hW
  obtain ⟨hH1, hH2⟩ := hH
  cases h : inB c 0 99 with
  | false =>
    have hr : isCell f c = false := by simp [isCell, h]
    rw [hr]
    clear hr
    go_enter Tryd.func81, Tryd.ntmps81
    go_wp2_with (go_at_call 57; refine (l00In_any _ _ _ _).mono ?_; rintro e w' ⟨rfl, rfl⟩)
    go_ret
    exact ⟨rfl, rfl⟩
  | true =>
    obtain ⟨h1, h2⟩ := inB_iff.1 h
    by_cases h3 : c % 10 < f.W
    · have hr : isCell f c = decide (c / 10 < f.H) := by simp [isCell, h, h3]
      rw [hr]
      clear hr
      go_enter Tryd.func81, Tryd.ntmps81
      go_wp2_with (go_at_call 57; refine (l00In_any _ _ _ _).mono ?_; rintro e w' ⟨rfl, rfl⟩)
      go_ret
      exact ⟨rfl, rfl⟩
    · have hr : isCell f c = false := by simp [isCell, h3]
      rw [hr]
      clear hr
      go_enter Tryd.func81, Tryd.ntmps81
      go_wp2_with (go_at_call 57; refine (l00In_any _ _ _ _).mono ?_; rintro e w' ⟨rfl, rfl⟩)
      go_ret
      exact ⟨rfl, rfl⟩

/-- Is what a number has as in a valid field? -/
def cellOk (f : Fd) (i : Nat) : Bool := inB (f.K i) 0 3 && inB (f.S i) 0 1000 && (f.K i == 0 || f.S i == 0) && (isCell f i || (f.K i == 0 && f.S i == 0))
/-- Is the field valid? -/
def okF (f : Fd) : Bool := inB f.W 1 10 && inB f.H 1 10 && allTo 100 (cellOk f)

set_option maxRecDepth 100000 in
set_option maxHeartbeats 2000000 in
theorem l01Ok_any (f : Fd) (hf : f.Wf) (b : Nat) (w : World) (B : Blk w b (fcells f) 30) :
    Calls Tryd.prog 79 #[.pointer (some ⟨b, 0, none⟩)] w fun e w' => e = .returned (.bool (okF f)) ∧ w = w' := by
  have c0 := B.cell (fcells_0 f)
  have c1 := B.cell (fcells_1 f)
  obtain ⟨hW1, hW2⟩ := hf.W
  obtain ⟨hH1, hH2⟩ := hf.H
  cases h1 : inB f.W 1 10 with
  | false =>
    have hr : okF f = false := by simp [okF, h1]
    rw [hr]; clear hr
    go_enter Tryd.func79, Tryd.ntmps79
    go_wp2_with (go_at_call 57; refine (l00In_any _ _ _ _).mono ?_; rintro e w' ⟨rfl, rfl⟩)
    go_ret
    exact ⟨rfl, rfl⟩
  | true =>
    cases h2 : inB f.H 1 10 with
    | false =>
      have hr : okF f = false := by simp [okF, h2]
      rw [hr]; clear hr
      go_enter Tryd.func79, Tryd.ntmps79
      go_wp2_with (go_at_call 57; refine (l00In_any _ _ _ _).mono ?_; rintro e w' ⟨rfl, rfl⟩)
      go_ret
      exact ⟨rfl, rfl⟩
    | true =>
      have hr : okF f = allTo 100 (cellOk f) := by simp [okF, h1, h2]
      rw [hr]; clear hr
      go_enter Tryd.func79, Tryd.ntmps79
      go_wp2_with (go_at_call 57; refine (l00In_any _ _ _ _).mono ?_; rintro e w' ⟨rfl, rfl⟩)
      clear h1 h2 c0 c1
      go_loop [3] (fun i => ∃ k : Nat, k ≤ 100 ∧ i = .int .i64 k ∧ (∀ i, i < k → cellOk f i = true)) (fun i => 100 - (intOf i).toNat)
      case atStart => exact ⟨0, by omega, rfl, fun i hi => by omega⟩
      case round =>
        obtain ⟨k, hk, rfl, hall0⟩ := hrel
        have hall : Hid (∀ i, i < k → cellOk f i = true) := hall0
        clear hall0
        by_cases hlt : k < 100
        · have cK := B.cell (fcells_K f k hlt)
          have cS := B.cell (fcells_S f k hlt)
          obtain ⟨hK1, hK2⟩ := hf.K k hlt
          obtain ⟨hS1, hS2⟩ := hf.S k hlt
          cases q1 : inB (f.K k) 0 3 with
          | false =>
            have hfin : Hid (allTo 100 (cellOk f) = false) := allTo_false hlt (by simp [cellOk, q1])
            go_wp2_with (first | (go_at_call 98; refine (l01Kind_any _ _).mono ?_; rintro e w' ⟨rfl, rfl⟩) | (go_at_call 99; refine (l01Seeds_any _ _).mono ?_; rintro e w' ⟨rfl, rfl⟩) | (go_at_call 81; refine (l01Is_any f _ b _ hf.W hf.H B).mono ?_; rintro e w' ⟨rfl, rfl⟩))
            go_ret
            exact ⟨by rw [hfin.out]; rfl, rfl⟩
          | true =>
            cases q2 : inB (f.S k) 0 1000 with
            | false =>
              have hfin : Hid (allTo 100 (cellOk f) = false) := allTo_false hlt (by simp [cellOk, q2])
              go_wp2_with (first | (go_at_call 98; refine (l01Kind_any _ _).mono ?_; rintro e w' ⟨rfl, rfl⟩) | (go_at_call 99; refine (l01Seeds_any _ _).mono ?_; rintro e w' ⟨rfl, rfl⟩) | (go_at_call 81; refine (l01Is_any f _ b _ hf.W hf.H B).mono ?_; rintro e w' ⟨rfl, rfl⟩))
              go_ret
              exact ⟨by rw [hfin.out]; rfl, rfl⟩
            | true =>
              cases q3 : (f.K k != 0) with
              | true =>
                cases q4 : (f.S k != 0) with
                | true =>
                  have hfin : Hid (allTo 100 (cellOk f) = false) := allTo_false hlt (by simp [cellOk]; simp at q3 q4; simp [q3, q4])
                  go_wp2_with (first | (go_at_call 98; refine (l01Kind_any _ _).mono ?_; rintro e w' ⟨rfl, rfl⟩) | (go_at_call 99; refine (l01Seeds_any _ _).mono ?_; rintro e w' ⟨rfl, rfl⟩) | (go_at_call 81; refine (l01Is_any f _ b _ hf.W hf.H B).mono ?_; rintro e w' ⟨rfl, rfl⟩))
                  go_ret
                  exact ⟨by rw [hfin.out]; rfl, rfl⟩
                | false =>
                  cases q5 : isCell f k with
                  | true =>
                    have hc : Hid (cellOk f k = true) := by have q4' : (f.S k == 0) = true := (by simpa using q4); unfold Hid cellOk; rw [q1, q2, q4', q5]; simp
                    go_wp2_with (first | (go_at_call 98; refine (l01Kind_any _ _).mono ?_; rintro e w' ⟨rfl, rfl⟩) | (go_at_call 99; refine (l01Seeds_any _ _).mono ?_; rintro e w' ⟨rfl, rfl⟩) | (go_at_call 81; refine (l01Is_any f _ b _ hf.W hf.H B).mono ?_; rintro e w' ⟨rfl, rfl⟩))
                    go_round
                    case rel => exact ⟨k + 1, by omega, by go_num, upto_succ hall.out hc.out⟩
                    case measure => simp [intOf]; omega
                  | false =>
                    have hfin : Hid (allTo 100 (cellOk f) = false) := allTo_false hlt (by simp [cellOk, q5]; simp at q3; simp [q3])
                    go_wp2_with (first | (go_at_call 98; refine (l01Kind_any _ _).mono ?_; rintro e w' ⟨rfl, rfl⟩) | (go_at_call 99; refine (l01Seeds_any _ _).mono ?_; rintro e w' ⟨rfl, rfl⟩) | (go_at_call 81; refine (l01Is_any f _ b _ hf.W hf.H B).mono ?_; rintro e w' ⟨rfl, rfl⟩))
                    go_ret
                    exact ⟨by rw [hfin.out]; rfl, rfl⟩
              | false =>
                cases q5 : isCell f k with
                | true =>
                  have hc : Hid (cellOk f k = true) := by have q3' : (f.K k == 0) = true := (by simpa using q3); unfold Hid cellOk; rw [q1, q2, q3', q5]; simp
                  go_wp2_with (first | (go_at_call 98; refine (l01Kind_any _ _).mono ?_; rintro e w' ⟨rfl, rfl⟩) | (go_at_call 99; refine (l01Seeds_any _ _).mono ?_; rintro e w' ⟨rfl, rfl⟩) | (go_at_call 81; refine (l01Is_any f _ b _ hf.W hf.H B).mono ?_; rintro e w' ⟨rfl, rfl⟩))
                  go_round
                  case rel => exact ⟨k + 1, by omega, by go_num, upto_succ hall.out hc.out⟩
                  case measure => simp [intOf]; omega
                | false =>
                  cases q4 : (f.S k != 0) with
                  | true =>
                    have hfin : Hid (allTo 100 (cellOk f) = false) := allTo_false hlt (by simp [cellOk, q5]; simp at q4; simp [q4])
                    go_wp2_with (first | (go_at_call 98; refine (l01Kind_any _ _).mono ?_; rintro e w' ⟨rfl, rfl⟩) | (go_at_call 99; refine (l01Seeds_any _ _).mono ?_; rintro e w' ⟨rfl, rfl⟩) | (go_at_call 81; refine (l01Is_any f _ b _ hf.W hf.H B).mono ?_; rintro e w' ⟨rfl, rfl⟩))
                    go_ret
                    exact ⟨by rw [hfin.out]; rfl, rfl⟩
                  | false =>
                    have hc : Hid (cellOk f k = true) := by have q3' : (f.K k == 0) = true := (by simpa using q3); have q4' : (f.S k == 0) = true := (by simpa using q4); unfold Hid cellOk; rw [q1, q2, q3', q4']; simp
                    go_wp2_with (first | (go_at_call 98; refine (l01Kind_any _ _).mono ?_; rintro e w' ⟨rfl, rfl⟩) | (go_at_call 99; refine (l01Seeds_any _ _).mono ?_; rintro e w' ⟨rfl, rfl⟩) | (go_at_call 81; refine (l01Is_any f _ b _ hf.W hf.H B).mono ?_; rintro e w' ⟨rfl, rfl⟩))
                    go_round
                    case rel => exact ⟨k + 1, by omega, by go_num, upto_succ hall.out hc.out⟩
                    case measure => simp [intOf]; omega
        · have hge : 100 ≤ k := by omega
          have hfin : Hid (allTo 100 (cellOk f) = true) := allTo_iff.2 (fun i hi => hall.out i (by omega))
          go_wp2_with fail
          go_ret
          exact ⟨by rw [hfin.out]; rfl, rfl⟩

/-- The code of a field, a cell, and whether another number is as told. -/
def asked (f : Fd) (c : Int) (fine : Bool) : Int := if okF f = false then 1 else if isCell f c = false ∨ fine = false then 2 else 0
end
section
open Go Go.RowKit

theorem isSize_any (n : Int) (w : World) : Calls Tryd.prog 100 #[.int .i64 n] w fun e w' => e = .returned (.bool (inB n 1 10)) ∧ w = w' := by
  by_cases h1 : 1 ≤ n
  · by_cases h2 : n ≤ 10
    · rw [inB_iff.2 ⟨h1, h2⟩]
      go_enter Tryd.func100, Tryd.ntmps100
      go_wp2_with fail
      go_ret
      exact ⟨rfl, rfl⟩
    · rw [inB_false (.inr (by omega))]
      go_enter Tryd.func100, Tryd.ntmps100
      go_wp2_with fail
      go_ret
      exact ⟨rfl, rfl⟩
  · rw [inB_false (.inl (by omega))]
    go_enter Tryd.func100, Tryd.ntmps100
    go_wp2_with fail
    go_ret
    exact ⟨rfl, rfl⟩
theorem isSeeds_any (n : Int) (w : World) : Calls Tryd.prog 108 #[.int .i64 n] w fun e w' => e = .returned (.bool (inB n 0 1000)) ∧ w = w' := by
  by_cases h1 : 0 ≤ n
  · by_cases h2 : n ≤ 1000
    · rw [inB_iff.2 ⟨h1, h2⟩]
      go_enter Tryd.func108, Tryd.ntmps108
      go_wp2_with fail
      go_ret
      exact ⟨rfl, rfl⟩
    · rw [inB_false (.inr (by omega))]
      go_enter Tryd.func108, Tryd.ntmps108
      go_wp2_with fail
      go_ret
      exact ⟨rfl, rfl⟩
  · rw [inB_false (.inl (by omega))]
    go_enter Tryd.func108, Tryd.ntmps108
    go_wp2_with fail
    go_ret
    exact ⟨rfl, rfl⟩
theorem isKind_any (n : Int) (w : World) : Calls Tryd.prog 109 #[.int .i64 n] w fun e w' => e = .returned (.bool (inB n 0 3)) ∧ w = w' := by
  by_cases h1 : 0 ≤ n
  · by_cases h2 : n ≤ 3
    · rw [inB_iff.2 ⟨h1, h2⟩]
      go_enter Tryd.func109, Tryd.ntmps109
      go_wp2_with fail
      go_ret
      exact ⟨rfl, rfl⟩
    · rw [inB_false (.inr (by omega))]
      go_enter Tryd.func109, Tryd.ntmps109
      go_wp2_with fail
      go_ret
      exact ⟨rfl, rfl⟩
  · rw [inB_false (.inl (by omega))]
    go_enter Tryd.func109, Tryd.ntmps109
    go_wp2_with fail
    go_ret
    exact ⟨rfl, rfl⟩

theorem placeOf_any (n : Int) (w : World) : Calls Tryd.prog 111 #[.int .i64 n] w fun e w' => e = .returned (.tuple #[.int .i64 (n.tmod 10), .int .i64 (wrap64 (n.tdiv 10))]) ∧ w = w' := by
  go_enter Tryd.func111, Tryd.ntmps111
  go_wp2_with fail
  go_ret2
  exact ⟨rfl, rfl⟩
/-- Has the field this place? -/
def placeIn (f : Fd) (x y : Int) : Bool := decide (0 ≤ x) && decide (x < f.W) && decide (0 ≤ y) && decide (y < f.H)
theorem tdiv_small (c : Int) (h1 : -9223372036854775808 ≤ c) (h2 : c ≤ 9223372036854775807) : wrap64 (c.tdiv 10) = c.tdiv 10 := by
  apply IntWalk.wrap64_in
  rcases Int.le_total 0 c with h | h
  · rw [Int.tdiv_eq_ediv_of_nonneg h]; omega
  · have : c.tdiv 10 = -((-c).tdiv 10) := by rw [Int.neg_tdiv]; omega
    rw [this, Int.tdiv_eq_ediv_of_nonneg (by omega)]; omega
theorem placeIn_cell {f : Fd} (hH : f.H ≤ 10) (c : Int) (h1 : -9223372036854775808 ≤ c) (h2 : c ≤ 9223372036854775807) : placeIn f (c.tmod 10) (wrap64 (c.tdiv 10)) = isCell f c := by
  rw [tdiv_small c h1 h2]
  unfold placeIn isCell inB
  rw [Bool.eq_iff_iff]
  simp only [Bool.and_eq_true, decide_eq_true_eq]
  rcases Int.le_total 0 c with h | h
  · rw [Int.tdiv_eq_ediv_of_nonneg h, Int.tmod_eq_emod_of_nonneg h]; omega
  · by_cases h0 : c = 0
    · subst h0; simp
    · have e1 : c.tdiv 10 = -((-c).tdiv 10) := by rw [Int.neg_tdiv]; omega
      have e2 : c.tmod 10 = -((-c).tmod 10) := by rw [Int.neg_tmod]; omega
      rw [e1, e2, Int.tdiv_eq_ediv_of_nonneg (by omega), Int.tmod_eq_emod_of_nonneg (by omega)]; omega
set_option maxRecDepth 100000 in
theorem spotAt_any (f : Fd) (k : Nat) (hk : k < 100) (w : World) : Calls Tryd.prog 95 #[.agg (fcells f), .int .i64 k] w fun e w' => e = .returned (.agg #[.int .u8 (f.K k), .int .i16 (f.S k)]) ∧ Below w.heap.size w w' := by
  go_enter Tryd.func95, Tryd.ntmps95
  go_wp2_with fail
  obtain ⟨W, hW, M⟩ := open2 w (fcells f) 30 #[.int .u8 0, .int .i16 0] 144
  rw [hW]; clear hW
  have cK := (M.at 0 rfl).cell (fcells_K f k hk)
  have cS := (M.at 0 rfl).cell (fcells_S f k hk)
  have hk1 : (k : Int) < 100 := by omega
  have d0 := (M.at 1 rfl).cell (i := 0) (v := .int .u8 0) rfl
  have d1 := (M.at 1 rfl).cell (i := 1) (v := .int .i16 0) rfl
  have e0 := (M.at 1 rfl).free 0
  have e1 := (M.at 1 rfl).free 1
  go_still_tail 9, (by kernel_rfl)
  change wpList _ _ _ _ _ (World.drew _)
  go_wp2_with fail
  have M2 := (M.drew.set 1 0 (.int .u8 (f.K k)) rfl _ rfl).set 1 1 (.int .i16 (f.S k)) rfl _ rfl
  exact bodyPost_ret (results_cell_row rfl _ _ (w.heap.size + 1) 144 _ _ _ rfl (M2.at 1 rfl) Tryd.underlying144 rfl (by kernel_rfl)) rfl ⟨rfl, M2.below⟩

/-- May a cell of a valid field have this kind and these seeds? -/
def spotOk (k s : Int) : Bool := if k = 0 then inB s 0 1000 else inB k 0 3 && s == 0
set_option maxRecDepth 100000 in
theorem isValid_any (k s : Int) (hk : 0 ≤ k ∧ k ≤ 255) (hs : -32768 ≤ s ∧ s ≤ 32767) (w : World) : Calls Tryd.prog 101 #[.agg #[.int .u8 k, .int .i16 s]] w fun e w' => e = .returned (.bool (spotOk k s)) ∧ Below w.heap.size w w' := by
  obtain ⟨hk1, hk2⟩ := hk
  obtain ⟨hs1, hs2⟩ := hs
  unfold spotOk
  by_cases h0 : k = 0
  · subst h0
    go_enter Tryd.func101, Tryd.ntmps101
    go_wp2_with (go_at_call 108; refine (isSeeds_any _ _).mono ?_; rintro e w' ⟨rfl, rfl⟩)
    go_ret
    exact ⟨rfl, (Below.refl _ _).alloc (Nat.le_refl _) _⟩
  · rw [if_neg h0]
    have h0' : (k == 0) = false := by simpa using h0
    clear h0
    cases h1 : inB k 0 3 with
    | true =>
      go_enter Tryd.func101, Tryd.ntmps101
      go_wp2_with (go_at_call 109; refine (isKind_any _ _).mono ?_; rintro e w' ⟨rfl, rfl⟩)
      go_ret
      exact ⟨rfl, (Below.refl _ _).alloc (Nat.le_refl _) _⟩
    | false =>
      go_enter Tryd.func101, Tryd.ntmps101
      go_wp2_with (go_at_call 109; refine (isKind_any _ _).mono ?_; rintro e w' ⟨rfl, rfl⟩)
      go_ret
      exact ⟨rfl, (Below.refl _ _).alloc (Nat.le_refl _) _⟩
theorem cellAt_any (x y : Int) (hx : 0 ≤ x ∧ x ≤ 1000) (hy : 0 ≤ y ∧ y ≤ 1000) (w : World) : Calls Tryd.prog 104 #[.int .i64 x, .int .i64 y] w fun e w' => e = .returned (.int .i64 (x + 10 * y)) ∧ w = w' := by
  obtain ⟨hx1, hx2⟩ := hx
  obtain ⟨hy1, hy2⟩ := hy
  go_enter Tryd.func104, Tryd.ntmps104
  go_wp2_with fail
  go_ret
  exact ⟨rfl, rfl⟩
theorem cellsIn_any (f : Fd) (w : World) : Calls Tryd.prog 87 #[.agg (fcells f)] w fun e w' => e = .returned (.func (.func 103) #[] #[.pointer (some ⟨w.heap.size, 0, none⟩)]) ∧ w.alloc (.cells (fcells f) 30) = w' := by
  go_enter Tryd.func87, Tryd.ntmps87
  go_wp2_with fail
  go_ret
  exact ⟨rfl, rfl⟩
end
section
open Go Go.RowKit Go.Shelf

/-- A cell of the field f. -/
abbrev CellOf (f : Fd) : Type := { c : Nat // isCell f c = true }
/-- The cells below n, ascending. -/
def cellsTo (f : Fd) : Nat → List (CellOf f)
  | 0 => []
  | n + 1 => if h : isCell f n = true then cellsTo f n ++ [⟨n, h⟩] else cellsTo f n
theorem cellsTo_yes {f : Fd} {n : Nat} (h : isCell f n = true) : cellsTo f (n + 1) = cellsTo f n ++ [⟨n, h⟩] := by simp [cellsTo, h]
theorem cellsTo_no {f : Fd} {n : Nat} (h : isCell f n = false) : cellsTo f (n + 1) = cellsTo f n := by simp [cellsTo, h]
theorem cellsTo_skip {f : Fd} {a b : Nat} (hab : a ≤ b) (h : ∀ c, a ≤ c → c < b → isCell f c = false) : cellsTo f b = cellsTo f a := by
  induction b with
  | zero => obtain rfl : a = 0 := by omega
            rfl
  | succ b ih =>
    by_cases e : a = b + 1
    · subst e; rfl
    · rw [cellsTo_no (h b (by omega) (by omega)), ih (by omega) (fun c h1 h2 => h c h1 (by omega))]
theorem cellsTo_length (f : Fd) : ∀ n, (cellsTo f n).length ≤ n
  | 0 => Nat.le_refl _
  | n + 1 => by
    have := cellsTo_length f n
    unfold cellsTo; split
    · simp; omega
    · omega
theorem cellsTo_mem {f : Fd} : ∀ {n : Nat} {c : CellOf f}, c ∈ cellsTo f n ↔ c.1 < n
  | 0, c => by simp [cellsTo]
  | n + 1, c => by
    unfold cellsTo; split
    · rename_i h
      rw [List.mem_append, cellsTo_mem]
      constructor
      · rintro (h1 | h1)
        · omega
        · have : c = ⟨n, h⟩ := by simpa using h1
          subst this; exact Nat.lt_succ_self n
      · intro h1
        by_cases e : c.1 = n
        · right; simp; exact Subtype.ext e
        · left; omega
    · rename_i h
      rw [cellsTo_mem]
      constructor
      · intro h1; omega
      · intro h1
        by_cases e : c.1 = n
        · exact absurd (e ▸ c.2) h
        · omega
theorem isCell_lt {f : Fd} {c : Nat} (h : isCell f c = true) : c < 100 := by
  simp only [isCell, Bool.and_eq_true, inB_iff] at h; omega
theorem isCell_xy {f : Fd} {x y : Nat} (hx : x < 10) (hy : y < 10) : isCell f ((x + 10 * y : Nat) : Int) = (decide ((x : Int) < f.W) && decide ((y : Int) < f.H)) := by
  unfold isCell inB
  rw [Bool.eq_iff_iff]
  simp only [Bool.and_eq_true, decide_eq_true_eq]
  have e1 : ((x + 10 * y : Nat) : Int) % 10 = x := by omega
  have e2 : ((x + 10 * y : Nat) : Int) / 10 = y := by omega
  rw [e1, e2]; omega

set_option maxRecDepth 100000 in
set_option maxHeartbeats 2000000 in
theorem cells1_in (n : Nat) (l Bs : Nat) (f : Fd) (hW : 0 ≤ f.W ∧ f.W ≤ 10) (hH : 0 ≤ f.H ∧ f.H ≤ 10) (J Jx : List (CellOf f) → World → Prop)
    (hY : ∀ pre (x : CellOf f) W, J pre W → pre.length < 100 → YieldAt Fence.wide (n - 1) Tryd.prog l #[.int .i64 (x.1 : Int)] W fun e W' =>
      (e = .returned (.bool true) ∧ J (pre ++ [x]) W' ∧ W'.heap[Bs]? = W.heap[Bs]?) ∨ (e = .returned (.bool false) ∧ Jx (pre ++ [x]) W'))
    (W : World) (B : Blk W Bs (fcells f) 30) (h0 : J [] W) :
    CallsIn Fence.wide n Tryd.prog 103 #[.func (.yield l) #[] #[], .pointer (some ⟨Bs, 0, none⟩)] W fun e W' => (∃ v, e = .returned v) ∧
      ((∃ ys, ys = cellsTo f 100 ∧ J ys W') ∨ (∃ pre, (∃ k, k ≤ 100 ∧ pre = cellsTo f k) ∧ Jx pre W')) := by
  have hdep : Fence.wide.depth.isSome = false := rfl
  have hfn : ∀ k, Fence.wide.fn k := fun _ => trivial
  have c0 := B.cell (fcells_0 f)
  have c1 := B.cell (fcells_1 f)
  obtain ⟨hW1, hW2⟩ := hW
  obtain ⟨hH1, hH2⟩ := hH
  refine callsIn_of_wp Tryd.func103 rfl trivial ?_ rfl
  simp only [Tryd.ntmps103, List.size_toArray, List.length_cons, List.length_nil, Nat.reduceAdd, Nat.reduceSub, Array.replicate_succ, Array.replicate_zero, List.push_toArray, List.append_toArray, List.nil_append, List.cons_append]
  gi_wp2
  clear c0 c1
  gi_loopw [8] (fun i wr => ∃ y : Nat, (y : Int) ≤ f.H ∧ i = .int .i64 y ∧ J (cellsTo f (10 * y)) wr ∧ Blk wr Bs (fcells f) 30) (fun i _ => 10 - (intOf i).toNat)
  case atStart => exact ⟨0, by omega, rfl, h0, B⟩
  case round =>
    obtain ⟨y, hy, rfl, hJs, hnx⟩ := hrel
    by_cases hlt : (y : Int) < f.H
    · have c0 := hnx.cell (fcells_0 f)
      gi_wp2
      clear c0
      obtain ⟨wo, rfl⟩ : ∃ wo : World, wo = wr := ⟨_, rfl⟩
      gi_loopw [14] (fun i wx => ∃ x : Nat, (x : Int) ≤ f.W ∧ i = .int .i64 x ∧ J (cellsTo f (x + 10 * y)) wx ∧ Blk wx Bs (fcells f) 30) (fun i _ => 10 - (intOf i).toNat)
      case atStart => exact ⟨0, by omega, rfl, by simpa using hJs, hnx⟩
      case round =>
        clear hJs hnx
        obtain ⟨x, hx, rfl, hJs, hnx⟩ := hrel
        by_cases hltx : (x : Int) < f.W
        · have hc : isCell f ((x + 10 * y : Nat) : Int) = true := by rw [isCell_xy (by omega) (by omega)]; simp [hltx, hlt]
          have hyes : Hid (cellsTo f (x + 10 * y + 1) = cellsTo f (x + 10 * y) ++ [⟨x + 10 * y, hc⟩]) := cellsTo_yes hc
          have hlen := isCell_lt hc
          obtain ⟨fn, tmps, assign, body, hy', hR⟩ := hY (cellsTo f (x + 10 * y)) ⟨x + 10 * y, hc⟩ wr hJs (by have := cellsTo_length f (x + 10 * y); omega)
          dsimp only at hy'
          rw [show ((x + 10 * y : Nat) : Int) = (x : Int) + 10 * (y : Int) by omega] at hy'
          gi_wp2_with (gi_at_call 104; refine (callsIn_wide.2 (cellAt_any _ _ ⟨by omega, by omega⟩ ⟨by omega, by omega⟩ _)).mono ?_; rintro e w' ⟨rfl, rfl⟩)
          refine hR.mono ?_
          rintro e W3 (⟨rfl, hJ3, hk3⟩ | ⟨rfl, hJx3⟩)
          · gi_wp2
            go_roundw
            case rel => exact ⟨x + 1, by omega, by go_num, by rw [show x + 1 + 10 * y = x + 10 * y + 1 by omega, hyes.out]; exact hJ3, hk3.trans hnx⟩
            case measure => simp [intOf]; omega
          · gi_wp2
            refine bodyPost_ret (results_none rfl _ _ _) rfl ?_
            exact ⟨⟨_, rfl⟩, .inr ⟨_, ⟨x + 10 * y + 1, by omega, hyes.out.symm⟩, hJx3⟩⟩
        · have hskip : Hid (cellsTo f (10 * (y + 1)) = cellsTo f (x + 10 * y)) := cellsTo_skip (by omega) (fun c h1 h2 => by
            obtain ⟨x', rfl⟩ : ∃ x', c = x' + 10 * y := ⟨c - 10 * y, by omega⟩
            rw [isCell_xy (by omega) (by omega)]; simp; omega)
          gi_wp2
          go_roundw
          case rel => exact ⟨y + 1, by omega, by go_num, by rw [hskip.out]; exact hJs, hnx⟩
          case measure => simp [intOf]; omega
    · have hskip : cellsTo f 100 = cellsTo f (10 * y) := cellsTo_skip (by omega) (fun c h1 h2 => by
        have e1 := Nat.div_add_mod c 10
        obtain ⟨x', y', hx', rfl⟩ : ∃ x' y', x' < 10 ∧ c = x' + 10 * y' := ⟨c % 10, c / 10, by omega, by omega⟩
        rw [isCell_xy hx' (by omega)]; simp; omega)
      rw [← hskip] at hJs
      clear hskip
      gi_wp2
      go_end0
      exact ⟨⟨_, rfl⟩, .inl hJs⟩

/-- What the closure of cellsIn keeps its word on: a round may turn what it likes but the box of the field. -/
theorem cells_stops (n : Nat) (Bs : Nat) (f : Fd) (hW : 0 ≤ f.W ∧ f.W ≤ 10) (hH : 0 ≤ f.H ∧ f.H ≤ 10) (w : World) (B : Blk w Bs (fcells f) 30) :
    SeqStopsK Fence.wide n Tryd.prog 103 #[.pointer (some ⟨Bs, 0, none⟩)] (fun x : CellOf f => #[Value.int .i64 (x.1 : Int)]) (fun W W' => W'.heap[Bs]? = W.heap[Bs]?) (fun ys => ys = cellsTo f 100) (fun pre => ∃ k, k ≤ 100 ∧ pre = cellsTo f k) 100 w :=
  fun l J Jx W hW' _ _ hY h0 => cells1_in n l Bs f hW hH J Jx hY W (B.later hW') h0

/-- The caller's memory abides what the loop's law and the iterator turn. -/
theorem Blk.grown {W W' : World} {row : Option Nat} {b : Nat} {cs : Array Value} {t : TypeId} (h : Blk W b cs t) (hg : W.grownBy W' row) (hr : ∀ r, row = some r → ∃ o : Obj, W.heap[r]? = some o ∧ o.isCells = false) : Blk W' b cs t := by
  unfold Blk
  rw [hg.block b h.lt (fun e => by
    obtain ⟨o, ho, hc⟩ := hr b e.symm
    rw [show W.heap[b]? = _ from h] at ho
    cases ho; cases hc)]
  exact h
theorem Mem.grown {w0 W W' : World} {L : List Ent} {row : Option Nat} {B : Nat} (H : Mem w0 W L) (hB : w0.heap.size ≤ B) (hg : W.grownBy W' row) (hr : ∀ r, row = some r → B ≤ r ∧ ∃ o : Obj, W.heap[r]? = some o ∧ o.isCells = false) : Mem w0 W' L :=
  ⟨H.below.grown hg H.below.size (fun k e => Nat.le_trans hB (hr k e).1), fun i e h => ⟨(H.blk i e h).1, (H.blk i e h).2.grown hg (fun r e => (hr r e).2)⟩, H.apart⟩
/-- The block of the deferred calls is taken: the memory is as it was. -/
theorem Mem.taken {w0 W : World} {L : List Ent} {D : Nat} {o o' : Obj} (H : Mem w0 W L) (hD : w0.heap.size ≤ D) (hK : W.heap[D]? = some o) (ho : o.isCells = false) : Mem w0 (W.putObj D o') L :=
  H.grown hD (grownBy_putObj' W D o') (fun r e => by cases e; exact ⟨Nat.le_refl _, o, hK, ho⟩)
theorem KeepsOthers.of_below {W W' : World} (h : Below W.heap.size W W') : KeepsOthers W W' :=
  ⟨h.size, fun k _ hk _ => (h.block k (Array.getElem?_eq_some_iff.1 hk).1).trans hk⟩
theorem keeps_setCells (b : Nat) : ∀ (vs : List Value) (o : Nat) (W : World), KeepsOthers W (W.setCells b o vs)
  | [], _, W => KeepsOthers.refl W
  | v :: r, o, W => (KeepsOthers.setCell W ⟨b, o, none⟩ v).trans (keeps_setCells b r (o + 1) _)
theorem Mem.same {w0 w1 W W' : World} {L L' : List Ent} (H : Mem w0 W L) (H' : Mem w1 W' L') (i j : Nat) {b : Nat} {cs : Array Value} {t : TypeId} (h : L[i]? = some ⟨b, cs, t⟩) (h' : L'[j]? = some ⟨b, cs, t⟩) : W'.heap[b]? = W.heap[b]? :=
  Eq.trans (H'.at j h') (Eq.symm (H.at i h))
end
section
open Go Go.RowKit

theorem mapM_some {α β : Type} {g : α → Option β} {h : α → β} : ∀ (l : List α), (∀ x ∈ l, g x = some (h x)) → l.mapM g = some (l.map h)
  | [], _ => rfl
  | x :: l, hx => by
    rw [List.mapM_cons, hx x (by simp), mapM_some l (fun y hy => hx y (by simp [hy]))]; rfl

def flits (f : Fd) : List Lit := [.int .i8 f.W, .int .i8 f.H] ++ ((List.range 100).map fun i => Lit.int .u8 (f.K i)) ++ ((List.range 100).map fun i => Lit.int .i16 (f.S i))

theorem toList_drop_take (cs : Array Value) (i : Nat) (v : Value) (h : cs[i]? = some v) : (cs.toList.drop i).take 1 = [v] := by
  have h' : cs.toList[i]? = some v := by simpa using h
  obtain ⟨hi, hv⟩ := List.getElem?_eq_some_iff.1 h'
  rw [List.drop_eq_getElem_cons hi, hv]; rfl
theorem acells_toList (k : IntKind) (n : Nat) (f : Nat → Int) : (acells k n f).toList = (List.range n).map fun i => Value.int k (f i) := by simp [acells]

theorem keyLits_ints {P : Program} {t e : TypeId} {q : IntKind} {n : Nat} (d : Nat) (ht : P.underlying t = some (.array n e)) (he : P.underlying e = some (.int q)) (hce : P.cellsOf e = 1) (hct : P.cellsOf t = n)
    (f : Nat → Int) (hwf : ∀ i, i < n → (Lit.int q (f i)).wf = true) : P.keyLits (d + 2) t (acells q n f).toList = some ((List.range n).map fun i => Lit.int q (f i)) := by
  unfold Program.keyLits
  rw [ht]
  simp only [Array.length_toList, acells_size, hct, if_true, hce, Nat.mul_one]
  rw [mapM_some (h := fun i => [Lit.int q (f i)])]
  · simp only [Option.map_some, Option.some.injEq]
    induction List.range n with
    | nil => rfl
    | cons x l ih => simp [ih]
  · intro i hi
    have hi' : i < n := by simpa using hi
    rw [toList_drop_take _ _ _ (acells_get _ _ _ _ hi')]
    unfold Program.keyLits
    rw [he]
    simp [hwf i hi']
theorem fcells_toList (f : Fd) : (fcells f).toList = [.int .i8 f.W, .int .i8 f.H] ++ (acells .u8 100 f.K).toList ++ (acells .i16 100 f.S).toList := by
  apply List.ext_getElem?
  intro j
  rw [Array.getElem?_toList]
  by_cases e0 : j = 0
  · subst e0; rw [fcells_0]; rfl
  · by_cases e1 : j = 1
    · subst e1; rw [fcells_1]; rfl
    · by_cases e2 : j < 102
      · obtain ⟨i, rfl⟩ : ∃ i, j = 2 + i := ⟨j - 2, by omega⟩
        rw [fcells_K f i (by omega), List.getElem?_append_left (by simp [acells_size] <;> omega), List.getElem?_append_right (by simp)]
        simp only [List.length_cons, List.length_nil, show 2 + i - (0 + 1 + 1) = i by omega, Array.getElem?_toList]
        rw [acells_get _ _ _ _ (by omega)]
      · by_cases e3 : j < 202
        · obtain ⟨i, rfl⟩ : ∃ i, j = 102 + i := ⟨j - 102, by omega⟩
          rw [fcells_S f i (by omega), List.getElem?_append_right (by simp [acells_size] <;> omega)]
          simp only [List.length_append, List.length_cons, List.length_nil, Array.length_toList, acells_size, show 102 + i - (0 + 1 + 1 + 100) = i by omega, Array.getElem?_toList]
          rw [acells_get _ _ _ _ (by omega)]
        · rw [Array.getElem?_eq_none (by rw [fcells_size]; omega), List.getElem?_eq_none (by simp [acells_size] <;> omega)]
theorem flits_iff {f g : Fd} : flits f = flits g ↔ fcells f = fcells g := by
  constructor
  · intro h
    have e : ∀ x : Fd, (flits x).map (fun | Lit.int k n => Value.int k n | _ => undef) = (fcells x).toList := fun x => by
      rw [fcells_toList]; simp [flits, acells_toList, Function.comp_def]
    have := congrArg (List.map (fun | Lit.int k n => Value.int k n | _ => undef)) h
    rw [e, e] at this
    exact Array.toList_inj.1 this
  · intro h
    have e : ∀ x : Fd, (fcells x).toList.map (fun | Value.int k n => Lit.int k n | _ => Lit.bool false) = flits x := fun x => by
      rw [fcells_toList]; simp [flits, acells_toList, Function.comp_def]
    rw [← e f, ← e g, h]

theorem keyLits_field (d : Nat) (f : Fd) (hf : f.Wf) : Tryd.prog.keyLits (d + 3) 30 (fcells f).toList = some (flits f) := by
  have hu : Tryd.prog.underlying 30 = some (.struct (Tryd.prog.fieldsOf 30)) := by kernel_rfl
  have hfs : (Tryd.prog.fieldsOf 30).toList.map (fun x => (x.name, x.type, x.offset)) = [("Wide", 22, 0), ("High", 22, 1), ("Kinds", 23, 2), ("Seeds", 25, 102)] := by kernel_rfl
  have hc : Tryd.prog.cellsOf 30 = 202 := by kernel_rfl
  have hc8 : Tryd.prog.cellsOf 22 = 1 := by kernel_rfl
  have hcK : Tryd.prog.cellsOf 23 = 100 := by kernel_rfl
  have hcS : Tryd.prog.cellsOf 25 = 100 := by kernel_rfl
  have hcu : Tryd.prog.cellsOf 5 = 1 := by kernel_rfl
  have hci : Tryd.prog.cellsOf 24 = 1 := by kernel_rfl
  unfold Program.keyLits
  rw [hu]
  generalize Tryd.prog.fieldsOf 30 = fs at hfs ⊢
  obtain ⟨l⟩ := fs
  have hl : l.length = 4 := by have := congrArg List.length hfs; simpa using this
  match l, hl, hfs with
  | [a, b, c, e], _, hfs =>
    simp only [List.map_cons, List.map_nil, List.cons.injEq, Prod.mk.injEq, and_true] at hfs
    obtain ⟨⟨n0, t0, o0⟩, ⟨n1, t1, o1⟩, ⟨n2, t2, o2⟩, ⟨n3, t3, o3⟩⟩ := hfs
    simp only [Array.length_toList, fcells_size, hc, List.all_toArray, List.all_cons, List.all_nil, n0, n1, n2, n3, t0, t1, t2, t3, o0, o1, o2, o3, List.mapM_cons, List.mapM_nil, hc8, hcK, hcS]
    have k0 : Tryd.prog.keyLits (d + 2) 22 (((fcells f).toList.drop 0).take 1) = some [.int .i8 f.W] := by
      rw [toList_drop_take _ _ _ (fcells_0 f)]; unfold Program.keyLits; rw [Tryd.underlying22]; simp [lit_i8 hf.W]
    have k1 : Tryd.prog.keyLits (d + 2) 22 (((fcells f).toList.drop 1).take 1) = some [.int .i8 f.H] := by
      rw [toList_drop_take _ _ _ (fcells_1 f)]; unfold Program.keyLits; rw [Tryd.underlying22]; simp [lit_i8 hf.H]
    have k2 : Tryd.prog.keyLits (d + 2) 23 (((fcells f).toList.drop 2).take 100) = some ((List.range 100).map fun i => Lit.int .u8 (f.K i)) := by
      rw [← keyLits_ints d Tryd.underlying23 Tryd.underlying5 hcu hcK f.K (fun i hi => lit_u8 (hf.K i hi)), fcells_toList, List.append_assoc, List.drop_left' (by simp), List.take_left' (by simp [acells_size])]
    have k3 : Tryd.prog.keyLits (d + 2) 25 (((fcells f).toList.drop 102).take 100) = some ((List.range 100).map fun i => Lit.int .i16 (f.S i)) := by
      rw [← keyLits_ints d Tryd.underlying25 Tryd.underlying24 hci hcS f.S (fun i hi => lit_i16 (hf.S i hi)), fcells_toList, List.drop_left' (by simp [acells_size]), List.take_of_length_le (by simp [acells_size])]
    rw [k0, k1, k2, k3]
    simp [flits]

theorem formed_field (f : Fd) : (Value.agg (fcells f)).formed Tryd.prog 30 = true := by
  have hc : Tryd.prog.cellsOf 30 = 202 := by kernel_rfl
  have hu : Tryd.prog.underlying 30 = some (.struct (Tryd.prog.fieldsOf 30)) := by kernel_rfl
  unfold Value.formed
  simp [hu, hc, fcells_size]

/-- Equal or not, as a Bool. -/
def feq (f g : Fd) : Bool := f.W == g.W && f.H == g.H && allTo 100 (fun i => f.K i == g.K i && f.S i == g.S i)
theorem feq_iff {f g : Fd} : feq f g = true ↔ fcells f = fcells g := by
  constructor
  · intro h
    simp only [feq, Bool.and_eq_true, beq_iff_eq, allTo_iff] at h
    exact fcells_congr h.1.1 h.1.2 (fun i hi => (h.2 i hi).1) (fun i hi => (h.2 i hi).2)
  · intro h
    obtain ⟨h1, h2, h3, h4⟩ := fcells_inj h
    simp only [feq, Bool.and_eq_true, beq_iff_eq, allTo_iff]
    exact ⟨⟨h1, h2⟩, fun i hi => ⟨h3 i hi, h4 i hi⟩⟩

set_option maxRecDepth 100000 in
theorem run_equalIn_field (f g : Fd) (hf : f.Wf) (hg : g.Wf) (w : World) : (Op.equalIn 10000 30 (.agg (fcells f)) (.agg (fcells g))).run Tryd.prog w = .ok (feq f g) w := by
  have hk : Tryd.prog.keyTypeAt 5 30 = true := by kernel_rfl
  obtain ⟨r, hr, hiff⟩ := run_equalIn_deep 9995 5 30 hk w _ _ (.agg (fcells f)) (.agg (fcells g)) (flits f) (flits g) (formed_field f) (formed_field g) (keyLits_field 0 f hf) (keyLits_field 0 g hg)
  have e : r = feq f g := by rw [Bool.eq_iff_iff, feq_iff, hiff, flits_iff]
  subst e
  exact hr
end
section
open Go Go.RowKit Go.Shelf
attribute [local go_sem] Oper.semAt_some

theorem inB_size {n : Int} (h : inB n 1 10 = true) : 0 ≤ n ∧ n ≤ 10 := by have := inB_iff.1 h; omega

set_option maxRecDepth 100000 in
set_option maxHeartbeats 4000000 in
theorem validField_no (f : Fd) (hf : f.Wf) (h : inB f.W 1 10 = false ∨ inB f.H 1 10 = false) (w : World) : Calls Tryd.prog 85 #[.agg (fcells f)] w fun e w' => e = .returned (.bool false) ∧ Below w.heap.size w w' := by
  have c0 := fcells_0 f
  have c1 := fcells_1 f
  obtain ⟨hW1, hW2⟩ := hf.W
  obtain ⟨hH1, hH2⟩ := hf.H
  cases h1 : inB f.W 1 10 with
  | false =>
    clear h
    go_enter Tryd.func85, Tryd.ntmps85
    go_wp2_with (go_at_call 100; refine (isSize_any _ _).mono ?_; rintro e w' ⟨rfl, rfl⟩)
    exact bodyPost_ret (v := .bool false) (by simp [results, Tryd.results85, go_sem]) rfl ⟨rfl, ((Below.refl _ _).alloc (Nat.le_refl _) _).alloc (by simp) _⟩
  | true =>
    have h2 : inB f.H 1 10 = false := by rcases h with h | h; (rw [h1] at h; cases h); exact h
    clear h
    go_enter Tryd.func85, Tryd.ntmps85
    go_wp2_with (go_at_call 100; refine (isSize_any _ _).mono ?_; rintro e w' ⟨rfl, rfl⟩)
    exact bodyPost_ret (v := .bool false) (by simp [results, Tryd.results85, go_sem]) rfl ⟨rfl, ((Below.refl _ _).alloc (Nat.le_refl _) _).alloc (by simp) _⟩

/-- What is outside of some cells: those are struck. -/
def outside (f : Fd) (l : List (CellOf f)) : Fd := l.foldl (fun g c => (g.setK c.1 0).setS c.1 0) f
theorem outside_snoc (f : Fd) (l : List (CellOf f)) (c : CellOf f) : outside f (l ++ [c]) = ((outside f l).setK c.1 0).setS c.1 0 := by simp [outside, List.foldl_append]
theorem outside_W {f : Fd} (l : List (CellOf f)) : (outside f l).W = f.W ∧ (outside f l).H = f.H := by
  suffices ∀ (l : List (CellOf f)) (g : Fd), (l.foldl (fun g c => (g.setK c.1 0).setS c.1 0) g).W = g.W ∧ (l.foldl (fun g c => (g.setK c.1 0).setS c.1 0) g).H = g.H from this l f
  intro l
  induction l with
  | nil => intro g; exact ⟨rfl, rfl⟩
  | cons c l ih => intro g; exact ih _
theorem outside_at {f : Fd} (n k : Nat) : (outside f (cellsTo f n)).K k = (if k < n ∧ isCell f k = true then 0 else f.K k) ∧ (outside f (cellsTo f n)).S k = (if k < n ∧ isCell f k = true then 0 else f.S k) := by
  induction n with
  | zero => simp [cellsTo, outside]
  | succ n ih =>
    by_cases h : isCell f n = true
    · rw [cellsTo_yes h, outside_snoc]
      simp only [Fd.setS, Fd.setK]
      by_cases e : k = n
      · subst e; simp [h]
      · have e1 : (k < n + 1 ∧ isCell f k = true) ↔ (k < n ∧ isCell f k = true) := by constructor <;> (rintro ⟨a, b⟩; exact ⟨by omega, b⟩)
        rw [if_neg e, if_neg e, ih.1, ih.2]
        simp only [e1, and_self]
    · have h' : isCell f n = false := by simpa using h
      rw [cellsTo_no h', ih.1, ih.2]
      by_cases e : k = n
      · subst e; simp [h']
      · have e1 : (k < n + 1 ∧ isCell f k = true) ↔ (k < n ∧ isCell f k = true) := by constructor <;> (rintro ⟨a, b⟩; exact ⟨by omega, b⟩)
        simp only [e1, and_self]
/-- The field of these sizes without kinds and seeds. -/
def Fd.bare (a b : Int) : Fd := ⟨a, b, fun _ => 0, fun _ => 0⟩
theorem spotOk_cell {f : Fd} {k : Nat} (h : isCell f k = true) : cellOk f k = spotOk (f.K k) (f.S k) := by
  unfold cellOk spotOk
  rw [h]
  by_cases h0 : f.K k = 0
  · rw [if_pos h0, h0]; simp [inB]
  · rw [if_neg h0]
    have h0' : (f.K k == 0) = false := by simpa using h0
    rw [h0']
    by_cases h1 : f.S k = 0
    · simp [h1, inB]
    · have h1' : (f.S k == 0) = false := by simpa using h1
      simp [h1']
theorem okF_of_outside {f : Fd} (h1 : inB f.W 1 10 = true) (h2 : inB f.H 1 10 = true) (hall : ∀ c ∈ cellsTo f 100, spotOk (f.K c.1) (f.S c.1) = true) : feq (outside f (cellsTo f 100)) (Fd.bare f.W f.H) = okF f := by
  unfold okF feq
  rw [h1, h2, (outside_W (cellsTo f 100)).1, (outside_W (cellsTo f 100)).2]
  simp only [Fd.bare, beq_self_eq_true, Bool.true_and]
  refine allTo_congr (fun k hk => ?_)
  rw [(outside_at 100 k).1, (outside_at 100 k).2]
  by_cases h : isCell f k = true
  · rw [if_pos ⟨hk, h⟩, if_pos ⟨hk, h⟩, spotOk_cell h, hall ⟨k, h⟩ (cellsTo_mem.2 hk)]; rfl
  · have h' : isCell f k = false := by simpa using h
    rw [if_neg (fun c => h c.2), if_neg (fun c => h c.2)]
    unfold cellOk
    rw [h']
    by_cases h0 : f.K k = 0
    · by_cases h3 : f.S k = 0
      · simp [h0, h3, inB]
      · have h3' : (f.S k == 0) = false := by simpa using h3
        simp [h3']
    · have h0' : (f.K k == 0) = false := by simpa using h0
      simp [h0']
theorem okF_bad {f : Fd} {k : Nat} (h : isCell f k = true) (hb : spotOk (f.K k) (f.S k) = false) : okF f = false := by
  unfold okF
  rw [allTo_false (isCell_lt h) (by rw [spotOk_cell h, hb])]
  simp

theorem outside_wf {f : Fd} (hf : f.Wf) (l : List (CellOf f)) : (outside f l).Wf := by
  suffices ∀ (l : List (CellOf f)) (g : Fd), g.Wf → (l.foldl (fun g c => (g.setK c.1 0).setS c.1 0) g).Wf from this l f hf
  intro l
  induction l with
  | nil => intro g hg; exact hg
  | cons c l ih =>
    intro g hg
    refine ih _ ⟨hg.W, hg.H, fun i hi => ?_, fun i hi => ?_⟩
    · simp only [Fd.setS, Fd.setK]; split
      · omega
      · exact hg.K i hi
    · simp only [Fd.setS, Fd.setK]; split
      · omega
      · exact hg.S i hi
theorem wide_round (l k : Nat) : (Fence.wide.inRound l).fn k := trivial

set_option maxRecDepth 100000 in
set_option maxHeartbeats 8000000 in
theorem validField_yes (f : Fd) (hf : f.Wf) (h1 : inB f.W 1 10 = true) (h2 : inB f.H 1 10 = true) (w : World) : Calls Tryd.prog 85 #[.agg (fcells f)] w fun e w' => e = .returned (.bool (okF f)) ∧ Below w.heap.size w w' := by
  have hdep : Fence.wide.depth.isSome = false := rfl
  have hfn : ∀ k, Fence.wide.fn k := fun _ => trivial
  obtain ⟨hW1, hW2⟩ := hf.W
  obtain ⟨hH1, hH2⟩ := hf.H
  refine (callsIn_wide (n := 3)).1 ?_
  refine callsIn_of_wp_marks Tryd.func85 rfl trivial ?_ rfl
  simp only [Tryd.ntmps85, List.size_toArray, List.length_cons, List.length_nil, Nat.reduceAdd, Nat.reduceSub, Array.replicate_succ, Array.replicate_zero, List.push_toArray, List.append_toArray, List.nil_append, List.cons_append]
  gi_upto_region 1 with (fail)
  obtain ⟨W, hW, M⟩ := open2 w (fcells f) 30 #[.bool false] 4
  rw [hW]; clear hW
  have c0 := (M.at 0 rfl).cell (fcells_0 f)
  have c1 := (M.at 0 rfl).cell (fcells_1 f)
  gi_upto_region 3 with (gi_at_call 100; refine (callsIn_wide.2 (isSize_any _ _)).mono ?_; rintro e w' ⟨rfl, rfl⟩)
  clear c0 c1
  have M2 := M.alloc Tryd.zeroCells30 30
  have hz : Tryd.zeroCells30.size = 202 := by rw [zeroFd, fcells_size]
  have hzH : Hid (Tryd.zeroCells30.size = 202) := hz
  clear hz
  gi_upto_region 4 with (first
    | (refine loadIn hfn rfl 30 _ rfl w.heap.size 0 rfl (fcells f) _ (M.at 0 rfl).whole Tryd.underlying30 rfl (by rw [fcells_size]; exact sizeFd) ?_)
    | (refine storeIn hfn rfl 30 _ _ rfl W.heap.size 0 (fcells f) rfl rfl ((M2.at 2 rfl).there 0 _ (by rw [fcells_size, hzH.out]; omega)) (by rw [fcells_size]; exact sizeFd) (fcells_one _) ?_))
  have M3 : Mem w _ [⟨w.heap.size, fcells f, 30⟩, ⟨w.heap.size + 1, #[.bool false], 4⟩, ⟨W.heap.size, fcells f, 30⟩] := M2.cells 2 0 (fcells f).toList rfl (fcells f) ((M2.at 2 rfl).over (fcells f) (by rw [fcells_size, hzH.out]))
  clear M2 M hzH
  generalize World.setCells _ _ _ _ = W3 at M3 ⊢
  obtain ⟨b3, hb3⟩ : ∃ b3, b3 = W.heap.size := ⟨_, rfl⟩
  rw [← hb3] at M3 ⊢
  clear hb3
  gi_wp2_with (first
    | (refine loadIn hfn rfl 30 _ rfl w.heap.size 0 rfl (fcells f) _ (M3.at 0 rfl).whole Tryd.underlying30 rfl (by rw [fcells_size]; exact sizeFd) ?_)
    | (gi_at_call 87; refine (callsIn_wide.2 (cellsIn_any f _)).mono ?_; rintro e w' ⟨rfl, rfl⟩))
  obtain ⟨bi, hbi⟩ : ∃ bi, bi = W3.heap.size := ⟨_, rfl⟩
  have M4 : Mem w (W3.alloc (Obj.cells (fcells f) 30)) [⟨w.heap.size, fcells f, 30⟩, ⟨w.heap.size + 1, #[.bool false], 4⟩, ⟨b3, fcells f, 30⟩, ⟨bi, fcells f, 30⟩] := by rw [hbi]; exact M3.alloc (fcells f) 30
  generalize W3.alloc _ = W4 at M4 ⊢
  rw [← hbi]
  clear hbi M3
  have hsz : w.heap.size ≤ W4.heap.size := M4.below.size
  refine wpIn_rangeFunc_ownF rfl (by omega) (gf := 103) (lb := #[.pointer (some ⟨bi, 0, none⟩)]) rfl trivial (enters_of Tryd.func103 (by kernel_rfl) rfl)
    (cells_stops 2 bi f (inB_size h1) (inB_size h2) W4 (M4.at 3 rfl)) (fun h k => k.trans h)
    (fun W l o o' hl ho hc _ => World.putObj_heap_other (fun e => by
      have := (M4.at 3 rfl).lt
      omega))
    (Below.refl _ _) (fun _ => rfl)
    (fun pre W => Mem w W [⟨w.heap.size, fcells f, 30⟩, ⟨w.heap.size + 1, #[.bool false], 4⟩, ⟨b3, fcells (outside f pre), 30⟩, ⟨bi, fcells f, 30⟩] ∧ ∀ c ∈ pre, spotOk (f.K c.1) (f.S c.1) = true)
    (fun c _ W => c = Code.ret ∧ okF f = false ∧ ∃ g, Mem w W [⟨w.heap.size, fcells f, 30⟩, ⟨w.heap.size + 1, #[.bool false], 4⟩, ⟨b3, fcells g, 30⟩, ⟨bi, fcells f, 30⟩])
    (fun s A B row hs hg hr => ⟨hs.1.grown hsz hg hr, hs.2⟩)
    (fun c s A B row hs hg hr => ⟨hs.1, hs.2.1, hs.2.2.choose, hs.2.2.choose_spec.grown hsz hg hr⟩)
    ⟨M4, fun c hc => by cases hc⟩
    (fun x => { tmps := #[.agg (fcells f), .pointer (some ⟨w.heap.size, 0, none⟩), .pointer (some ⟨w.heap.size + 1, 0, none⟩), .pointer (some ⟨b3, 0, none⟩), .int .i64 (x.1 : Int), .pointer (some ⟨w.heap.size, 0, none⟩), .int .i8 f.W, .int .i64 f.W, .bool true, .bool false, .bool false, .pointer (some ⟨w.heap.size, 1, none⟩), .int .i8 f.H, .int .i64 f.H, .bool true, .bool false, .bool false, .agg (fcells f), .agg (fcells f), .func (.func 103) #[] #[.pointer (some ⟨bi, 0, none⟩)], .int .i64 (x.1 : Int), undef, undef, undef, undef, undef, undef, undef, undef, undef, undef, undef, undef, undef, undef, undef, undef, undef, undef], defers := [] }) ?assign ?body ?done ?stop
  case assign =>
    intro l x W K hK
    gi_wp2
    exact hK
  case body =>
    rintro l pre x W5 ⟨M5, hall0⟩ _
    have hall : Hid (∀ c ∈ pre, spotOk (f.K c.1) (f.S c.1) = true) := hall0
    clear hall0
    have hfn' : ∀ k, (Fence.wide.inRound l).fn k := fun _ => trivial
    have hdep' : (Fence.wide.inRound l).depth.isSome = false := rfl
    have hx := isCell_lt x.2
    have hKx := hf.K x.1 hx
    have hSx := hf.S x.1 hx
    cases hsp : spotOk (f.K x.1) (f.S x.1) with
    | false =>
      have hbad : Hid (okF f = false) := okF_bad x.2 hsp
      gi_upto_region 7 with (first
      | (refine loadIn hfn' rfl 30 _ rfl w.heap.size 0 rfl (fcells f) _ (M5.at 0 rfl).whole Tryd.underlying30 rfl (by rw [fcells_size]; exact sizeFd) ?_)
      | (gi_at_call 95; refine (CallsIn.inRound l (callsIn_wide.2 (spotAt_any f x.1 hx _))).mono ?_; rintro e W6 ⟨rfl, hb6⟩; have M6 := M5.call hb6)
      | (gi_at_call 101; refine (CallsIn.inRound l (callsIn_wide.2 (isValid_any _ _ hKx hSx _))).mono ?_; rintro e W7 ⟨rfl, hb7⟩; have M7 := M6.call hb7))
      have d0 := (M7.at 1 rfl).cell (i := 0) (v := .bool false) rfl
      have e0 := (M7.at 1 rfl).free 0
      gi_wp2
      exact ⟨((KeepsOthers.of_below hb6).trans (KeepsOthers.of_below hb7)).trans (KeepsOthers.setCell _ _ _), rfl, hbad.out, _, M7.set 1 0 (.bool false) rfl _ rfl⟩
    | true =>
      have hok : Hid (spotOk (f.K x.1) (f.S x.1) = true) := hsp
      gi_upto_region 8 with (first
      | (refine loadIn hfn' rfl 30 _ rfl w.heap.size 0 rfl (fcells f) _ (M5.at 0 rfl).whole Tryd.underlying30 rfl (by rw [fcells_size]; exact sizeFd) ?_)
      | (gi_at_call 95; refine (CallsIn.inRound l (callsIn_wide.2 (spotAt_any f x.1 hx _))).mono ?_; rintro e W6 ⟨rfl, hb6⟩; have M6 := M5.call hb6)
      | (gi_at_call 101; refine (CallsIn.inRound l (callsIn_wide.2 (isValid_any _ _ hKx hSx _))).mono ?_; rintro e W7 ⟨rfl, hb7⟩; have M7 := M6.call hb7))
      have d0 := (M7.at 2 rfl).cell (fcells_K (outside f pre) x.1 hx)
      have d1 := (M7.at 2 rfl).cell (fcells_S (outside f pre) x.1 hx)
      have e0 := (M7.at 2 rfl).free (2 + x.1)
      have e1 := (M7.at 2 rfl).free (102 + x.1)
      gi_wp2
      have M8 := (M7.set 2 (2 + x.1) (.int .u8 0) rfl _ (fcells_setK (outside f pre) x.1 0 hx)).set 2 (102 + x.1) (.int .i16 0) rfl _ (fcells_setS _ x.1 0 hx)
      refine ⟨(((KeepsOthers.of_below hb6).trans (KeepsOthers.of_below hb7)).trans (KeepsOthers.setCell _ _ _)).trans (KeepsOthers.setCell _ _ _), M5.same M8 3 3 rfl rfl, ?_, ?_⟩
      · rw [outside_snoc]; exact M8
      · intro c hc
        rcases List.mem_append.1 hc with hc | hc
        · exact hall.out c hc
        · have : c = x := by simpa using hc
          rw [this]; exact hok.out
  case done =>
    rintro D xs W5 hD rfl ⟨M5, hall0⟩ hK
    have hfin : Hid (feq (outside f (cellsTo f 100)) (Fd.bare f.W f.H) = okF f) := okF_of_outside h1 h2 hall0
    clear hall0
    have c0 := (M5.at 0 rfl).cell (fcells_0 f)
    have c1 := (M5.at 0 rfl).cell (fcells_1 f)
    have d0 := (M5.at 1 rfl).cell (i := 0) (v := .bool false) rfl
    have e0 := (M5.at 1 rfl).free 0
    have gW : (outside f (cellsTo f 100)).Wf := outside_wf hf _
    have gB : (Fd.bare f.W f.H).Wf := ⟨hf.W, hf.H, fun _ _ => ⟨by simp [Fd.bare], by simp [Fd.bare]⟩, fun _ _ => ⟨by simp [Fd.bare], by simp [Fd.bare]⟩⟩
    gi_wp2_with (first
      | (refine loadIn hfn rfl 30 _ rfl b3 0 rfl (fcells (outside f (cellsTo f 100))) _ (M5.at 2 rfl).whole Tryd.underlying30 rfl (by rw [fcells_size]; exact sizeFd) ?_)
      | (refine buildIn hfn rfl 30 _ rfl #[(0, .int .i8 f.W), (1, .int .i8 f.H)] rfl (.agg (fcells (Fd.bare f.W f.H))) (by kernel_rfl) ?_)
      | (refine eqlIn hfn rfl 30 _ _ _ rfl (fcells (outside f (cellsTo f 100))) (fcells (Fd.bare f.W f.H)) rfl rfl (by kernel_rfl) _ (run_equalIn_field _ _ gW gB _) ?_))
    have M6 := M5.set 1 0 (.bool (feq (outside f (cellsTo f 100)) (Fd.bare f.W f.H))) rfl _ rfl
    rw [hfin.out] at M6 ⊢
    refine ⟨by simp, .inl ⟨_, _, rfl, run_takeDeferred ((KeepsOthers.setCell W5 ⟨w.heap.size + 1, 0, none⟩ _).same D _ hK rfl), ?_⟩⟩
    have M7 := M6.taken (o' := .deferred none) (Nat.le_trans hsz hD) ((KeepsOthers.setCell W5 ⟨w.heap.size + 1, 0, none⟩ _).same D _ hK rfl) rfl
    exact ⟨.bool (okF f), by have := (M7.at 1 rfl).cell (i := 0) (v := .bool (okF f)) rfl; simp [results, Tryd.results85, go_sem, this], rfl, M7.below⟩
  case stop =>
    rintro D c pre W5 hD _ ⟨rfl, hbad, g, M5⟩ hK
    have Hb : Hid (okF f = false) := hbad
    clear hbad
    gi_wp2
    rw [Hb.out]
    refine ⟨by simp, .inl ⟨_, _, rfl, run_takeDeferred hK, ?_⟩⟩
    have M7 := M5.taken (o' := .deferred none) (Nat.le_trans hsz hD) hK rfl
    exact ⟨.bool false, by have := (M7.at 1 rfl).cell (i := 0) (v := .bool false) rfl; simp [results, Tryd.results85, go_sem, this], rfl, M7.below⟩

theorem validField_any (f : Fd) (hf : f.Wf) (w : World) : Calls Tryd.prog 85 #[.agg (fcells f)] w fun e w' => e = .returned (.bool (okF f)) ∧ Below w.heap.size w w' := by
  cases h1 : inB f.W 1 10 with
  | false => rw [show okF f = false by simp [okF, h1]]; exact validField_no f hf (.inl h1) w
  | true =>
    cases h2 : inB f.H 1 10 with
    | false => rw [show okF f = false by simp [okF, h2]]; exact validField_no f hf (.inr h2) w
    | true => exact validField_yes f hf h1 h2 w
end
end Go.Proofs.YtaioflkonpommaaDoor
