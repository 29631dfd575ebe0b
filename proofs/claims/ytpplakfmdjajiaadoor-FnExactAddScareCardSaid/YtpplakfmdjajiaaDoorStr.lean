/-
  Rows of structs of integers: as cells, element by element.
-/
import Derived.Test.YtpplakfmdjajiaaDoorBase
import Derived.Test.YtpplakfmdjajiaaDoorIn
import Derived.Lib.Hide
import Derived.Laws.MakeOwn
namespace Go.Proofs.YtpplakfmdjajiaaDoor
open Go Go.RowKit

/-- The value of field j of element i; the kinds of the fields are ks. -/
def sget (ks : List IntKind) (F : Nat → Nat → Int) (i j : Nat) : Value := .int (ks.getD j .i64) (F i j)
/-- n elements, one behind the other. -/
def scells (ks : List IntKind) (n : Nat) (F : Nat → Nat → Int) : Array Value := ((List.range (n * ks.length)).map fun q => sget ks F (q / ks.length) (q % ks.length)).toArray
/-- One element. -/
def srow (ks : List IntKind) (F : Nat → Nat → Int) (i : Nat) : Array Value := ((List.range ks.length).map fun j => sget ks F i j).toArray
theorem scells_size (ks : List IntKind) (n : Nat) (F : Nat → Nat → Int) : (scells ks n F).size = n * ks.length := by simp [scells]
theorem srow_size (ks : List IntKind) (F : Nat → Nat → Int) (i : Nat) : (srow ks F i).size = ks.length := by simp [srow]
theorem srow_get (ks : List IntKind) (F : Nat → Nat → Int) (i j : Nat) (h : j < ks.length) : (srow ks F i)[j]? = some (sget ks F i j) := by simp [srow, h]
theorem place_lt {s n i j : Nat} (hi : i < n) (hj : j < s) : i * s + j < n * s := by
  have : (i + 1) * s ≤ n * s := Nat.mul_le_mul_right s hi
  rw [Nat.succ_mul] at this; omega
theorem scells_get (ks : List IntKind) (n : Nat) (F : Nat → Nat → Int) (i j : Nat) (hi : i < n) (hj : j < ks.length) : (scells ks n F)[i * ks.length + j]? = some (sget ks F i j) := by
  have hlt := place_lt hi hj
  have hs : 0 < ks.length := by omega
  have e1 : (i * ks.length + j) / ks.length = i := by rw [Nat.mul_comm, Nat.mul_add_div hs, Nat.div_eq_of_lt hj, Nat.add_zero]
  have e2 : (i * ks.length + j) % ks.length = j := by rw [Nat.mul_comm, Nat.mul_add_mod, Nat.mod_eq_of_lt hj]
  simp [scells, hlt, e1, e2]
theorem scells_one (ks : List IntKind) (n : Nat) (F : Nat → Nat → Int) : (scells ks n F).all (·.oneCell') = true := by
  rw [Array.all_eq_true_iff_forall_mem]; intro v hv; simp [scells] at hv; obtain ⟨i, _, rfl⟩ := hv; rfl
theorem srow_one (ks : List IntKind) (F : Nat → Nat → Int) (i : Nat) : (srow ks F i).all (·.oneCell') = true := by
  rw [Array.all_eq_true_iff_forall_mem]; intro v hv; simp [srow] at hv; obtain ⟨i, _, rfl⟩ := hv; rfl
theorem scells_ext {ks : List IntKind} {n : Nat} {F : Nat → Nat → Int} {cs : Array Value} (hs : cs.size = n * ks.length) (h : ∀ i j, i < n → j < ks.length → cs[i * ks.length + j]? = some (sget ks F i j)) : cs = scells ks n F := by
  apply Array.ext_getElem?
  intro q
  by_cases hq : q < n * ks.length
  · have hpos : 0 < ks.length := by
      rcases Nat.eq_zero_or_pos ks.length with e | e
      · rw [e] at hq; omega
      · exact e
    have e := Nat.div_add_mod q ks.length
    have hi : q / ks.length < n := (Nat.div_lt_iff_lt_mul hpos).2 hq
    have hj := Nat.mod_lt q hpos
    have e' : q / ks.length * ks.length + q % ks.length = q := by rw [Nat.mul_comm]; exact e
    rw [← e', h _ _ hi hj, scells_get ks n F _ _ hi hj]
  · rw [Array.getElem?_eq_none (by omega), Array.getElem?_eq_none (by rw [scells_size]; omega)]
theorem scells_congr {ks : List IntKind} {n : Nat} {F G : Nat → Nat → Int} (h : ∀ i j, i < n → j < ks.length → F i j = G i j) : scells ks n F = scells ks n G :=
  scells_ext (scells_size ks n F) (fun i j hi hj => by rw [scells_get ks n F i j hi hj]; unfold sget; rw [h i j hi hj])
/-- An element, as a part of the cells. -/
theorem Blk.elem {w : World} {b : Nat} {ks : List IntKind} {n : Nat} {F : Nat → Nat → Int} {t : TypeId} (h : Blk w b (scells ks n F) t) {i : Nat} (hi : i < n) : w.rangeAt b (i * ks.length) (srow ks F i).toList :=
  h.range (i * ks.length) (fun j hj => by rw [srow_size] at hj; rw [scells_get ks n F i j hi hj, srow_get ks F i j hj])
theorem Blk.elemThere {w : World} {b : Nat} {ks : List IntKind} {n : Nat} {F : Nat → Nat → Int} {t : TypeId} (h : Blk w b (scells ks n F) t) {i : Nat} (hi : i < n) : w.there b (i * ks.length) ks.length :=
  h.there _ _ (by
    rw [scells_size]
    have : (i + 1) * ks.length ≤ n * ks.length := Nat.mul_le_mul_right _ hi
    rw [Nat.succ_mul] at this; exact this)
/-- An element stored. -/
theorem Blk.setElem {w : World} {b : Nat} {ks : List IntKind} {n : Nat} {F G : Nat → Nat → Int} {t : TypeId} (h : Blk w b (scells ks n F) t) {i : Nat} (hi : i < n) {m : Nat} : Blk (w.setCells b (i * ks.length) (srow ks G m).toList) b (scells ks n (fun p => if p = i then G m else F p)) t := by
  obtain ⟨cs', h1, h2, h3⟩ := Blk.cells (srow ks G m).toList (scells ks n F) (i * ks.length) w h
  have e : cs' = scells ks n (fun p => if p = i then G m else F p) := by
    refine scells_ext (by rw [h2, scells_size]) (fun p j hp hj => ?_)
    rw [h3]
    have hlt := place_lt hp hj
    have hlen : (srow ks G m).toList.length = ks.length := by simp [srow]
    rw [hlen, scells_size]
    by_cases e : p = i
    · subst e
      rw [if_pos ⟨by omega, by omega, hlt⟩, show p * ks.length + j - p * ks.length = j by omega, Array.getElem?_toList, srow_get ks G m j hj]
      unfold sget; simp
    · rw [if_neg (fun hc => by
        rcases Nat.lt_or_gt_of_ne e with hl | hl
        · have : (p + 1) * ks.length ≤ i * ks.length := Nat.mul_le_mul_right _ hl
          rw [Nat.succ_mul] at this; omega
        · have : (i + 1) * ks.length ≤ p * ks.length := Nat.mul_le_mul_right _ hl
          rw [Nat.succ_mul] at this; omega), scells_get ks n F p j hp hj]
      unfold sget; simp [e]
  exact e ▸ h1
theorem made_scells {ks : List IntKind} {z : Array Value} (hz : z = srow ks (fun _ _ => 0) 0) (n : Nat) : madeCells z (n * ks.length) = scells ks n (fun _ _ => 0) := by
  subst hz
  refine scells_ext (by simp [madeCells]) (fun i j hi hj => ?_)
  have hlt := place_lt hi hj
  have e2 : (i * ks.length + j) % ks.length = j := by rw [Nat.mul_comm, Nat.mul_add_mod, Nat.mod_eq_of_lt hj]
  have e3 : (srow ks (fun _ _ => 0) 0)[j]! = sget ks (fun _ _ => 0) i j := by
    rw [getElem!_def, srow_get ks _ 0 j hj]; rfl
  simp [madeCells, hlt, srow_size, e2, e3]
/-- A slice made with a length. -/
theorem wpList_make {P : Program} {ops : Array Oper} {rest : List Oper} {op : Oper} {a : Act} {w : World} {Q : Exit → Act → World → Prop} {BY : Nat} (hgd : op.guard = none) (t e : TypeId) (x : Operand) (ho : op.op = .makeSlice t x x) (n : Nat) (hx : a.eval x = .int .i64 n) (ks : List IntKind)
    (ht : P.underlying t = some (.slice e)) (hi : (P.info? e).map (fun i => (i.size, i.bytes)) = some (ks.length, BY)) (hz : ((P.info? e).bind (·.zero)).map (·.cells) = some (srow ks (fun _ _ => 0) 0)) (hb : BY * n ≤ 281474976710656) (hn : n ≤ 9223372036854775807)
    (h : wpList P ops Q rest (a.put op.dst (.slice (some ⟨w.heap.size, 0, none⟩) n n)) (w.alloc (.cells (scells ks n (fun _ _ => 0)) e))) : wpList P ops Q (op :: rest) a w := by
  cases hie : P.info? e with
  | none => simp [hie] at hi
  | some i =>
    simp only [hie, Option.map_some, Option.some.injEq, Prod.mk.injEq, Option.bind_some] at hi hz
    obtain ⟨h1, h2⟩ := hi
    obtain ⟨z, hzz, hzc⟩ := Option.map_eq_some_iff.1 hz
    have hr := run_make (P := P) w t e i z ht hie hzz .i64 .i64 n n (by omega) (by omega) (by rw [h2]; omega) (by omega)
    rw [hzc, h1, Int.toNat_natCast, made_scells rfl] at hr
    refine wpList_run hgd (v := .slice (some ⟨w.heap.size, 0, none⟩) n n) ?_ h
    unfold execOp
    simp only [ho, hx, Sem.run_bind, hr, Result.andThen_ok, Sem.run_pure]
/-- A slice that came in: its elements' cells, from a place on. -/
def InS (w : World) (b o n : Nat) (ks : List IntKind) (F : Nat → Nat → Int) : Prop := ∀ i, i < n → w.rangeAt b (o + i * ks.length) (srow ks F i).toList
theorem InS.later {w w' : World} {b o n : Nat} {ks : List IntKind} {F : Nat → Nat → Int} (h : InS w b o n ks F) (hb : Below w.heap.size w w') : InS w' b o n ks F := fun i hi j v hj => by
  have := h i hi j v hj
  have hlt := World.block_lt_of_cell? _ _ this
  rw [← this]
  simp only [World.cell?, hb.block b hlt]
theorem InS.below {w w' : World} {B b o n : Nat} {ks : List IntKind} {F : Nat → Nat → Int} (h : InS w b o n ks F) (hb : Below B w w') (hB : ∀ i, i < n → b < B) : InS w' b o n ks F := fun i hi j v hj => by
  have := h i hi j v hj
  rw [← this]
  simp only [World.cell?, hb.block b (hB i hi)]
theorem InS.lt {w : World} {b o n : Nat} {ks : List IntKind} {F : Nat → Nat → Int} (h : InS w b o n ks F) (hs : 0 < ks.length) {i : Nat} (hi : i < n) : b < w.heap.size := by
  have := h i hi 0 (sget ks F i 0) (by rw [Array.getElem?_toList, srow_get ks F i 0 hs])
  exact World.block_lt_of_cell? _ _ this
/-- An element, in a later world. -/
theorem InS.elem {w w' : World} {b o n : Nat} {ks : List IntKind} {F : Nat → Nat → Int} (h : InS w b o n ks F) (_hs : 0 < ks.length) (hb : Below w.heap.size w w') {i : Nat} (hi : i < n) : w'.rangeAt b (o + i * ks.length) (srow ks F i).toList := h.later hb i hi
theorem Blk.inS {w : World} {b : Nat} {ks : List IntKind} {n : Nat} {F : Nat → Nat → Int} {t : TypeId} (h : Blk w b (scells ks n F) t) : InS w b 0 n ks F := fun i hi => by rw [Nat.zero_add]; exact h.elem hi
end Go.Proofs.YtpplakfmdjajiaaDoor
