/-
  Memory blocks that are known whole, rows of integers as functions, and small facts on worlds: what the walks of this seat use.
-/
import Derived.WalkKit
import Derived.WalkLawsBesides
import Derived.WalkSpells
import Derived.BigQuiet
import Derived.Deep.QuietTactic
import Derived.Deep.MidRow
import Derived.Test.YtpplakfmdjajiaaDoorProg
namespace Go.Proofs.YtpplakfmdjajiaaDoor
open Go Go.RowKit

/-- Block b of the world w is a row of the cells cs, of type t, that may be written. -/
def Blk (w : World) (b : Nat) (cs : Array Value) (t : TypeId) : Prop := w.heap[b]? = some (.cells cs t (0, 0))

theorem Blk.lt {w : World} {b : Nat} {cs : Array Value} {t : TypeId} (h : Blk w b cs t) : b < w.heap.size := (Array.getElem?_eq_some_iff.1 h).1
theorem heap_alloc (w : World) (o : Obj) (k : Nat) : (w.alloc o).heap[k]? = if k = w.heap.size then some o else w.heap[k]? := by
  show (w.heap.push o)[k]? = _
  rw [Array.getElem?_push]
theorem Blk.new (w : World) (cs : Array Value) (t : TypeId) : Blk (w.alloc (.cells cs t)) w.heap.size cs t := by
  unfold Blk; rw [heap_alloc, if_pos rfl]
theorem Blk.alloc {w : World} {b : Nat} {cs : Array Value} {t : TypeId} (h : Blk w b cs t) (o : Obj) : Blk (w.alloc o) b cs t := by
  have := h.lt
  unfold Blk; rw [heap_alloc, if_neg (by omega)]; exact h
theorem Blk.drew {w : World} {b : Nat} {cs : Array Value} {t : TypeId} (h : Blk w b cs t) : Blk w.drew b cs t := h
theorem Blk.drewN {w : World} {b : Nat} {cs : Array Value} {t : TypeId} (h : Blk w b cs t) (n : Nat) : Blk (w.drewN n) b cs t := h
theorem Blk.set {w : World} {b : Nat} {cs : Array Value} {t : TypeId} (h : Blk w b cs t) (i : Nat) (v : Value) : Blk (w.setCell ⟨b, i, none⟩ v) b (cs.setIfInBounds i v) t :=
  heap_setCell_same w b i cs t v h
theorem Blk.setOther {w : World} {b : Nat} {cs : Array Value} {t : TypeId} (h : Blk w b cs t) {a : Addr} (v : Value) (hne : b ≠ a.block) : Blk (w.setCell a v) b cs t := by
  unfold Blk; rw [heap_setCell_other w a b v hne]; exact h
theorem Blk.row {w : World} {b : Nat} {cs : Array Value} {t : TypeId} (h : Blk w b cs t) (cs' : Array Value) : Blk (w.setRow b cs') b cs' t := setRow_heap w b cs cs' t _ h
theorem Blk.rowOther {w : World} {b b' : Nat} {cs : Array Value} {t : TypeId} (h : Blk w b cs t) (cs' : Array Value) (hne : b ≠ b') : Blk (w.setRow b' cs') b cs t := by
  unfold Blk; rw [setRow_other w b' b cs' hne]; exact h
theorem Blk.below {B : Nat} {w w' : World} {b : Nat} {cs : Array Value} {t : TypeId} (h : Blk w b cs t) (hb : Below B w w') (hlt : b < B) : Blk w' b cs t := by
  unfold Blk; rw [hb.block b hlt]; exact h
theorem Blk.later {w w' : World} {b : Nat} {cs : Array Value} {t : TypeId} (h : Blk w b cs t) (hb : Below w.heap.size w w') : Blk w' b cs t := h.below hb h.lt
theorem Blk.cell {w : World} {b : Nat} {cs : Array Value} {t : TypeId} (h : Blk w b cs t) {i : Nat} {v : Value} (hv : cs[i]? = some v) : w.cell? ⟨b, i, none⟩ = some v := by
  rw [cell_of_row _ _ _ _ _ _ h]; exact hv
theorem Blk.free {w : World} {b : Nat} {cs : Array Value} {t : TypeId} (h : Blk w b cs t) (i : Nat) : w.frozen? ⟨b, i, none⟩ = false := frozen_of_row _ _ _ _ _ h
theorem Blk.range {w : World} {b : Nat} {cs : Array Value} {t : TypeId} (h : Blk w b cs t) (o : Nat) {vs : Array Value} (hv : ∀ j, j < vs.size → cs[o + j]? = vs[j]?) : w.rangeAt b o vs.toList := fun j v hj => by
  have hlt : j < vs.size := by have := (List.getElem?_eq_some_iff.1 hj).1; simpa using this
  rw [cell_of_row _ _ _ _ _ _ h, hv j hlt]; simpa using hj
theorem Blk.there {w : World} {b : Nat} {cs : Array Value} {t : TypeId} (h : Blk w b cs t) (o n : Nat) (hn : o + n ≤ cs.size) : w.there b o n := fun j hj => by
  refine ⟨?_, h.free _⟩
  rw [cell_of_row _ _ _ _ _ _ h, Array.getElem?_eq_getElem (by omega)]; rfl
theorem Blk.inj {w : World} {b : Nat} {cs cs' : Array Value} {t t' : TypeId} (h : Blk w b cs t) (h' : Blk w b cs' t') : cs = cs' := by
  have := Option.some.inj (h.symm.trans h'); injection this
theorem Blk.cells {b : Nat} {t : TypeId} : ∀ (vs : List Value) (cs : Array Value) (o : Nat) (w : World), Blk w b cs t → ∃ cs', Blk (w.setCells b o vs) b cs' t ∧ cs'.size = cs.size ∧
    ∀ i, cs'[i]? = if o ≤ i ∧ i < o + vs.length ∧ i < cs.size then vs[i - o]? else cs[i]?
  | [], cs, o, w, h => ⟨cs, h, rfl, fun i => by rw [if_neg (by simp; omega)]⟩
  | v :: r, cs, o, w, h => by
    obtain ⟨cs', h1, h2, h3⟩ := Blk.cells r _ (o + 1) _ (h.set o v)
    refine ⟨cs', h1, by rw [h2]; simp, fun i => ?_⟩
    rw [h3 i]
    simp only [Array.size_setIfInBounds, List.length_cons]
    by_cases e : i = o
    · subst e
      rw [if_neg (by omega), Array.getElem?_setIfInBounds]
      by_cases hs : i < cs.size
      · rw [if_pos rfl, if_pos hs, if_pos (by omega)]; simp
      · rw [if_pos rfl, if_neg hs, if_neg (by omega), Array.getElem?_eq_none (by omega)]
    · by_cases hc : o + 1 ≤ i ∧ i < o + 1 + r.length ∧ i < cs.size
      · rw [if_pos hc, if_pos (by omega)]
        have : i - o = (i - (o + 1)) + 1 := by omega
        rw [this, List.getElem?_cons_succ]
      · rw [if_neg hc, if_neg (by omega), Array.getElem?_setIfInBounds, if_neg (fun x => e x.symm)]
theorem Blk.cellsOther {b b' : Nat} {cs : Array Value} {t : TypeId} (hne : b ≠ b') : ∀ (vs : List Value) (o : Nat) (w : World), Blk w b cs t → Blk (w.setCells b' o vs) b cs t
  | [], _, _, h => h
  | v :: r, o, _, h => Blk.cellsOther hne r (o + 1) _ (h.setOther v hne)
theorem below_setCells {B : Nat} {a : World} {b : Nat} (hB : B ≤ b) : ∀ (vs : List Value) (o : Nat) (w : World), Below B a w → Below B a (w.setCells b o vs)
  | [], _, _, h => h
  | v :: r, o, _, h => below_setCells hB r (o + 1) _ (h.setCell (p := ⟨b, o, none⟩) hB v)
theorem below_drewN {B : Nat} {a w : World} (n : Nat) (h : Below B a w) : Below B a (w.drewN n) := ⟨h.os, h.tape, h.output, h.size, h.block⟩
theorem below_row {B : Nat} {a w : World} {b : Nat} (h : Below B a w) (hB : B ≤ b) (cs : Array Value) : Below B a (w.setRow b cs) :=
  h.trans ⟨rfl, rfl, rfl, by simp, fun k hk => setRow_other w b k cs (by omega)⟩
theorem Blk.size_le {w : World} {b : Nat} {cs : Array Value} {t : TypeId} (h : Blk w b cs t) : b + 1 ≤ w.heap.size := h.lt

/-- A part of a block, read as a value: at a plain region's list; the same inside a fence. -/
theorem wpList_load_part {P : Program} {ops : Array Oper} {rest : List Oper} {op : Oper} {a : Act} {w : World} {Q : Exit → Act → World → Prop} (hgd : op.guard = none) (ty : TypeId) (x : Operand) (ho : op.op = .load ty x)
    (b o : Nat) (hx : a.eval x = .pointer (some ⟨b, o, none⟩)) (vs : Array Value) (d : TypeDesc) (hc : w.rangeAt b o vs.toList)
    (hu : P.underlying ty = some d) (hd : d.isRow = true) (hi : (P.info? ty).map (·.size) = some vs.size)
    (h : wpList P ops Q rest (a.put op.dst (.agg vs)) w) : wpList P ops Q (op :: rest) a w :=
  wpList_load_mid hgd ty x ho b o hx vs.toList d hc hu hd (by simpa using hi) (by simpa using h)
theorem run_loadAt_part {P : Program} (w : World) (b o : Nat) (ty : TypeId) (vs : Array Value) (d : TypeDesc) (hc : w.rangeAt b o vs.toList)
    (hu : P.underlying ty = some d) (hd : d.isRow = true) (hi : (P.info? ty).map (·.size) = some vs.size) :
    (Instr.loadAt ty (.pointer (some ⟨b, o, none⟩))).run P w = .ok (.agg vs) w := by
  have := run_loadAt_mid w b o ty vs.toList d hc hu hd (by simpa using hi)
  simpa using this
theorem Blk.whole {w : World} {b : Nat} {cs : Array Value} {t : TypeId} (h : Blk w b cs t) : w.rangeAt b 0 cs.toList := h.range 0 (fun j _ => by rw [Nat.zero_add])

/-! Looking a block up in a world that is written out: for `simp (disch := omega) only [heapLook]`-like calls. -/
theorem look_alloc_new (w : World) (o : Obj) (k : Nat) (h : k = w.heap.size) : (w.alloc o).heap[k]? = some o := by rw [heap_alloc, if_pos h]
theorem look_alloc_old (w : World) (o : Obj) (k : Nat) (h : k ≠ w.heap.size) : (w.alloc o).heap[k]? = w.heap[k]? := by rw [heap_alloc, if_neg h]
theorem look_set_other (w : World) (b i : Nat) (v : Value) (k : Nat) (h : k ≠ b) : (w.setCell ⟨b, i, none⟩ v).heap[k]? = w.heap[k]? := heap_setCell_other w ⟨b, i, none⟩ k v h
theorem look_row_other (w : World) (b : Nat) (cs : Array Value) (k : Nat) (h : k ≠ b) : (w.setRow b cs).heap[k]? = w.heap[k]? := setRow_other w b k cs h
theorem size_setCells (b : Nat) : ∀ (vs : List Value) (o : Nat) (w : World), (w.setCells b o vs).heap.size = w.heap.size
  | [], _, _ => rfl
  | v :: r, o, w => (size_setCells b r (o + 1) _).trans (by simp [World.setCell])
theorem look_cells_other (b k : Nat) (h : k ≠ b) : ∀ (vs : List Value) (o : Nat) (w : World), (w.setCells b o vs).heap[k]? = w.heap[k]?
  | [], _, _ => rfl
  | v :: r, o, w => (look_cells_other b k h r (o + 1) _).trans (look_set_other w b o v k h)

/-! THE CALL's OWN MEMORY AS A LIST OF BLOCKS: since w0 nothing that was there has turned, and the blocks of the list are new, apart, and known whole. -/
structure Ent where
  b : Nat
  cs : Array Value
  t : TypeId
structure Mem (w0 w : World) (L : List Ent) : Prop where
  below : Below w0.heap.size w0 w
  blk : ∀ (i : Nat) (e : Ent), L[i]? = some e → w0.heap.size ≤ e.b ∧ Blk w e.b e.cs e.t
  apart : ∀ (i j : Nat) (e e' : Ent), L[i]? = some e → L[j]? = some e' → i ≠ j → e.b ≠ e'.b
theorem Mem.nil (w : World) : Mem w w [] := ⟨Below.refl _ _, fun _ _ h => by simp at h, fun _ _ _ _ h => by simp at h⟩
theorem Mem.alloc {w0 w : World} {L : List Ent} (H : Mem w0 w L) (cs : Array Value) (t : TypeId) : Mem w0 (w.alloc (.cells cs t)) (L ++ [⟨w.heap.size, cs, t⟩]) := by
  refine ⟨H.below.alloc H.below.size _, fun i e h => ?_, fun i j e e' h h' hij => ?_⟩
  · rw [List.getElem?_append] at h
    split at h
    · exact ⟨(H.blk i e h).1, (H.blk i e h).2.alloc _⟩
    · have : e = ⟨w.heap.size, cs, t⟩ := by
        rcases hk : i - L.length with _ | k
        · rw [hk] at h; simpa using h.symm
        · rw [hk] at h; simp at h
      subst this
      exact ⟨H.below.size, Blk.new _ _ _⟩
  · rw [List.getElem?_append] at h h'
    split at h <;> split at h'
    · exact H.apart i j e e' h h' hij
    · have h1 := (H.blk i e h).2.lt
      have : e' = ⟨w.heap.size, cs, t⟩ := by
        rcases hk : j - L.length with _ | k
        · rw [hk] at h'; simpa using h'.symm
        · rw [hk] at h'; simp at h'
      subst this
      exact Nat.ne_of_lt h1
    · have h1 := (H.blk j e' h').2.lt
      have : e = ⟨w.heap.size, cs, t⟩ := by
        rcases hk : i - L.length with _ | k
        · rw [hk] at h; simpa using h.symm
        · rw [hk] at h; simp at h
      subst this
      exact Nat.ne_of_gt h1
    · exfalso
      rcases hk : i - L.length with _ | k
      · rcases hk' : j - L.length with _ | k'
        · omega
        · rw [hk'] at h'; simp at h'
      · rw [hk] at h; simp at h
/-- A block that is no row of cells (a map). -/
theorem Mem.other {w0 w : World} {L : List Ent} (H : Mem w0 w L) (o : Obj) : Mem w0 (w.alloc o) L :=
  ⟨H.below.alloc H.below.size _, fun i e h => ⟨(H.blk i e h).1, (H.blk i e h).2.alloc _⟩, H.apart⟩
theorem Mem.at {w0 w : World} {L : List Ent} (H : Mem w0 w L) (i : Nat) {b : Nat} {cs : Array Value} {t : TypeId} (h : L[i]? = some ⟨b, cs, t⟩) : Blk w b cs t := (H.blk i _ h).2
theorem Mem.ge {w0 w : World} {L : List Ent} (H : Mem w0 w L) (i : Nat) {b : Nat} {cs : Array Value} {t : TypeId} (h : L[i]? = some ⟨b, cs, t⟩) : w0.heap.size ≤ b := (H.blk i _ h).1
theorem Mem.call {w0 w w' : World} {L : List Ent} (H : Mem w0 w L) (hb : Below w.heap.size w w') : Mem w0 w' L :=
  ⟨H.below.trans (hb.mono H.below.size), fun i e h => ⟨(H.blk i e h).1, (H.blk i e h).2.later hb⟩, H.apart⟩
theorem Mem.drew {w0 w : World} {L : List Ent} (H : Mem w0 w L) : Mem w0 w.drew L := ⟨H.below.drew, fun i e h => ⟨(H.blk i e h).1, (H.blk i e h).2⟩, H.apart⟩
theorem Mem.drewN {w0 w : World} {L : List Ent} (H : Mem w0 w L) (n : Nat) : Mem w0 (w.drewN n) L := ⟨below_drewN n H.below, fun i e h => ⟨(H.blk i e h).1, (H.blk i e h).2⟩, H.apart⟩
theorem Mem.put {w0 w w' : World} {L : List Ent} (H : Mem w0 w L) (i : Nat) {e : Ent} (cs' : Array Value) (h : L[i]? = some e) (hb : Below w0.heap.size w0 w') (hn : Blk w' e.b cs' e.t)
    (ho : ∀ b cs t, b ≠ e.b → Blk w b cs t → Blk w' b cs t) : Mem w0 w' (L.set i ⟨e.b, cs', e.t⟩) := by
  have key : ∀ j x, (L.set i ⟨e.b, cs', e.t⟩)[j]? = some x → (j = i ∧ x = ⟨e.b, cs', e.t⟩) ∨ (j ≠ i ∧ L[j]? = some x) := fun j x hx => by
    rw [List.getElem?_set] at hx
    split at hx
    · rename_i hij
      split at hx
      · exact .inl ⟨hij.symm, by simpa using hx.symm⟩
      · simp at hx
    · rename_i hij
      exact .inr ⟨fun c => hij c.symm, hx⟩
  refine ⟨hb, fun j x hx => ?_, fun j k x y hx hy hjk => ?_⟩
  · rcases key j x hx with ⟨_, rfl⟩ | ⟨hji, hx'⟩
    · exact ⟨(H.blk i e h).1, hn⟩
    · exact ⟨(H.blk j x hx').1, ho _ _ _ (H.apart j i x e hx' h hji) (H.blk j x hx').2⟩
  · rcases key j x hx with ⟨hj, hx'⟩ | ⟨hji, hx'⟩ <;> rcases key k y hy with ⟨hk, hy'⟩ | ⟨hki, hy'⟩
    · exact absurd (hj.trans hk.symm) hjk
    · subst hx'; exact H.apart i k e y h hy' (fun c => hki c.symm)
    · subst hy'; exact H.apart j i x e hx' h hji
    · exact H.apart j k x y hx' hy' hjk
theorem Mem.set {w0 w : World} {L : List Ent} (H : Mem w0 w L) (i off : Nat) (v : Value) {b : Nat} {cs : Array Value} {t : TypeId} (h : L[i]? = some ⟨b, cs, t⟩) (cs' : Array Value) (hcs : cs.setIfInBounds off v = cs') :
    Mem w0 (w.setCell ⟨b, off, none⟩ v) (L.set i ⟨b, cs', t⟩) :=
  H.put i cs' h (H.below.setCell (p := ⟨b, off, none⟩) (H.blk i _ h).1 v) (hcs ▸ (H.blk i _ h).2.set off v) (fun _ _ _ hne hb => hb.setOther v hne)
theorem Mem.row {w0 w : World} {L : List Ent} (H : Mem w0 w L) (i : Nat) {b : Nat} {cs : Array Value} {t : TypeId} (h : L[i]? = some ⟨b, cs, t⟩) (cs' : Array Value) : Mem w0 (w.setRow b cs') (L.set i ⟨b, cs', t⟩) :=
  H.put i cs' h (below_row H.below (H.blk i _ h).1 cs') ((H.blk i _ h).2.row cs') (fun _ _ _ hne hb => hb.rowOther cs' hne)
theorem Mem.cells {w0 w : World} {L : List Ent} (H : Mem w0 w L) (i o : Nat) (vs : List Value) {b : Nat} {cs : Array Value} {t : TypeId} (h : L[i]? = some ⟨b, cs, t⟩) (cs' : Array Value) (hn : Blk (w.setCells b o vs) b cs' t) :
    Mem w0 (w.setCells b o vs) (L.set i ⟨b, cs', t⟩) :=
  H.put i cs' h (below_setCells (H.blk i _ h).1 vs o w H.below) hn (fun _ _ _ hne hb => Blk.cellsOther hne vs o w hb)
theorem Mem.out {w0 w : World} {L : List Ent} (H : Mem w0 w L) : Below w0.heap.size w0 w := H.below
theorem open1 (w : World) (c1 : Array Value) (t1 : TypeId) : ∃ W, w.alloc (.cells c1 t1) = W ∧ Mem w W [⟨w.heap.size, c1, t1⟩] := ⟨_, rfl, (Mem.nil w).alloc c1 t1⟩
theorem open2 (w : World) (c1 : Array Value) (t1 : TypeId) (c2 : Array Value) (t2 : TypeId) : ∃ W, (w.alloc (.cells c1 t1)).alloc (.cells c2 t2) = W ∧ Mem w W [⟨w.heap.size, c1, t1⟩, ⟨w.heap.size + 1, c2, t2⟩] := by
  have h := ((Mem.nil w).alloc c1 t1).alloc c2 t2
  simp only [World.size_alloc, List.nil_append, List.cons_append] at h
  exact ⟨_, rfl, h⟩
theorem open3 (w : World) (c1 : Array Value) (t1 : TypeId) (c2 : Array Value) (t2 : TypeId) (c3 : Array Value) (t3 : TypeId) :
    ∃ W, ((w.alloc (.cells c1 t1)).alloc (.cells c2 t2)).alloc (.cells c3 t3) = W ∧ Mem w W [⟨w.heap.size, c1, t1⟩, ⟨w.heap.size + 1, c2, t2⟩, ⟨w.heap.size + 1 + 1, c3, t3⟩] := by
  have h := (((Mem.nil w).alloc c1 t1).alloc c2 t2).alloc c3 t3
  simp only [World.size_alloc, List.nil_append, List.cons_append] at h
  exact ⟨_, rfl, h⟩

/-- A row of n integers of one kind, by a function. -/
def acells (k : IntKind) (n : Nat) (f : Nat → Int) : Array Value := ((List.range n).map fun i => Value.int k (f i)).toArray
theorem acells_size (k : IntKind) (n : Nat) (f : Nat → Int) : (acells k n f).size = n := by simp [acells]
theorem acells_get (k : IntKind) (n : Nat) (f : Nat → Int) (i : Nat) (h : i < n) : (acells k n f)[i]? = some (.int k (f i)) := by simp [acells, h]
theorem acells_one (k : IntKind) (n : Nat) (f : Nat → Int) : (acells k n f).all (·.oneCell') = true := by
  rw [Array.all_eq_true_iff_forall_mem]; intro v hv; simp [acells] at hv; obtain ⟨i, _, rfl⟩ := hv; rfl
theorem acells_ext {k : IntKind} {n : Nat} {f : Nat → Int} {cs : Array Value} (hs : cs.size = n) (h : ∀ i, i < n → cs[i]? = some (.int k (f i))) : cs = acells k n f := by
  apply Array.ext_getElem?
  intro j
  by_cases hj : j < n
  · rw [h j hj, acells_get _ _ _ _ hj]
  · rw [Array.getElem?_eq_none (by omega), Array.getElem?_eq_none (by rw [acells_size]; omega)]
theorem acells_set (k : IntKind) (n : Nat) (f : Nat → Int) (i : Nat) (v : Int) (h : i < n) : (acells k n f).setIfInBounds i (.int k v) = acells k n (fun j => if j = i then v else f j) := by
  refine acells_ext (by simp [acells_size]) (fun j hj => ?_)
  rw [Array.getElem?_setIfInBounds, acells_get _ _ _ _ hj, acells_size]
  by_cases e : i = j
  · subst e; simp [h]
  · have e' : ¬ j = i := fun x => e x.symm
    simp [e, e']
theorem acells_congr {k : IntKind} {n : Nat} {f g : Nat → Int} (h : ∀ i, i < n → f i = g i) : acells k n f = acells k n g := by
  unfold acells; congr 1; apply List.map_congr_left; intro i hi; rw [h i (by simpa using hi)]
theorem acells_inj {k : IntKind} {n : Nat} {f g : Nat → Int} (h : acells k n f = acells k n g) : ∀ i, i < n → f i = g i := fun i hi => by
  have := congrArg (fun a => a[i]?) h
  simp only [acells_get _ _ _ _ hi] at this
  simpa using this

theorem upto_succ {p : Nat → Prop} {k : Nat} (h : ∀ i, i < k → p i) (hk : p k) : ∀ i, i < k + 1 → p i := fun i hi => by
  by_cases e : i = k
  · subst e; exact hk
  · exact h i (by omega)
/-- All numbers below n. -/
def allTo (n : Nat) (p : Nat → Bool) : Bool := (List.range n).all p
theorem allTo_iff {n : Nat} {p : Nat → Bool} : allTo n p = true ↔ ∀ i, i < n → p i = true := by
  unfold allTo; rw [List.all_eq_true]; exact ⟨fun h i hi => h i (List.mem_range.2 hi), fun h i hi => h i (List.mem_range.1 hi)⟩
theorem allTo_false {n : Nat} {p : Nat → Bool} {i : Nat} (hi : i < n) (h : p i = false) : allTo n p = false := by
  cases e : allTo n p with
  | false => rfl
  | true => rw [allTo_iff.1 e i hi] at h; cases h
theorem allTo_congr {n : Nat} {p q : Nat → Bool} (h : ∀ i, i < n → p i = q i) : allTo n p = allTo n q := by
  rw [Bool.eq_iff_iff, allTo_iff, allTo_iff]
  exact ⟨fun k i hi => (h i hi) ▸ k i hi, fun k i hi => (h i hi) ▸ k i hi⟩

theorem ret_int {k : IntKind} {a b : Int} (h : a = b) : Ending.returned (.int k a) = .returned (.int k b) := by rw [h]
theorem ret_bool {a b : Bool} (h : a = b) : Ending.returned (.bool a) = .returned (.bool b) := by rw [h]
theorem ret_agg {a b : Array Value} (h : a = b) : Ending.returned (.agg a) = .returned (.agg b) := by rw [h]
end Go.Proofs.YtpplakfmdjajiaaDoor
