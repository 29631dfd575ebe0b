/-
  The model's validity of scarecrows.
-/
import Derived.Test.YtidddepdjokjcaaDoorScrEq
import Derived.Test.YtidddepdjokjcaaDoorCoreA
import Derived.Test.YtidddepdjokjcaaDoorCoreD
import Derived.RangeFuncNested
import Derived.OpenShut
import Derived.Shelf.Abstract
namespace Go.Proofs.YtidddepdjokjcaaDoor
open Go Go.RowKit Go.WideShapes Go.ChangeShapes

/-- A scarecrow's numbers are as told. -/
def shapeOk (a : Nat → Int) : Bool := inB (a 0) 0 99 && inB (a 1) 1 1000 && inB (a 2) 0 30
/-- None of the first k stands in this cell. -/
def freeAt (F : Nat → Nat → Int) (k : Nat) (c : Int) : Bool := allTo k (fun j => F j 0 != c)
def standsOk (f : Fd) (c : Int) : Bool := isCell f c && f.K c.toNat != 3
def scareOk (f : Fd) (F : Nat → Nat → Int) (i : Nat) : Bool := shapeOk (F i) && standsOk f (F i 0) && freeAt F i (F i 0)
def okScares (f : Fd) (n : Nat) (F : Nat → Nat → Int) : Bool := okF f && allTo n (fun i => scareOk f F i) && decide (n ≤ 20)
/-- Each number fits its kind. -/
structure WfT (a : Nat → Int) : Prop where
  b0 : -32768 ≤ a 0 ∧ a 0 ≤ 32767
  b1 : -32768 ≤ a 1 ∧ a 1 ≤ 32767
  b2 : -128 ≤ a 2 ∧ a 2 ≤ 127
theorem wfT_row {n : Nat} {F : Nat → Nat → Int} (h : WfS ksScarecrow n F) {i : Nat} (hi : i < n) : WfT (F i) :=
  ⟨bounds_i16 (h i hi 0 (by decide)), bounds_i16 (h i hi 1 (by decide)), bounds_i8 (h i hi 2 (by decide))⟩
/-- A scarecrow's three cells. -/
structure ScrAt (w : World) (b o : Nat) (a : Nat → Int) : Prop where
  c0 : w.cell? ⟨b, o, none⟩ = some (.int .i16 (a 0))
  c1 : w.cell? ⟨b, o + 1, none⟩ = some (.int .i16 (a 1))
  c2 : w.cell? ⟨b, o + 2, none⟩ = some (.int .i8 (a 2))
theorem scrAt_of {w : World} {b o : Nat} {F : Nat → Nat → Int} {i : Nat} (h : w.rangeAt b o (srow ksScarecrow F i).toList) : ScrAt w b o (F i) :=
  ⟨h 0 _ rfl, h 1 _ rfl, h 2 _ rfl⟩
/-- A row of truth values. -/
def bcells (n : Nat) (g : Nat → Bool) : Array Value := ((List.range n).map fun i => Value.bool (g i)).toArray
theorem bcells_size (n : Nat) (g : Nat → Bool) : (bcells n g).size = n := by simp [bcells]
theorem bcells_get (n : Nat) (g : Nat → Bool) (i : Nat) (h : i < n) : (bcells n g)[i]? = some (.bool (g i)) := by simp [bcells, h]
theorem bcells_one (n : Nat) (g : Nat → Bool) : (bcells n g).all (·.oneCell') = true := by
  rw [Array.all_eq_true_iff_forall_mem]; intro v hv; simp [bcells] at hv; obtain ⟨i, _, rfl⟩ := hv; rfl
theorem bcells_ext {n : Nat} {g : Nat → Bool} {cs : Array Value} (hs : cs.size = n) (h : ∀ i, i < n → cs[i]? = some (.bool (g i))) : cs = bcells n g := by
  apply Array.ext_getElem?
  intro i
  by_cases hi : i < n
  · rw [h i hi, bcells_get n g i hi]
  · rw [Array.getElem?_eq_none (by omega), Array.getElem?_eq_none (by rw [bcells_size]; omega)]
theorem bcells_congr {n : Nat} {g h : Nat → Bool} (e : ∀ i, i < n → g i = h i) : bcells n g = bcells n h := bcells_ext (bcells_size n g) (fun i hi => by rw [bcells_get n g i hi, e i hi])
theorem bcells_set (n : Nat) (g : Nat → Bool) (k : Nat) (v : Bool) (hk : k < n) : (bcells n g).setIfInBounds k (.bool v) = bcells n (fun i => if i = k then v else g i) :=
  bcells_ext (by simp [bcells_size]) (fun i hi => by
    rw [Array.getElem?_setIfInBounds]
    by_cases e : k = i
    · subst e; simp [bcells_size, hk]
    · rw [if_neg e, bcells_get n g i hi, if_neg (fun x => e x.symm)])
theorem Mem.fst {w0 w : World} {e1 e2 : Ent} (H : Mem w0 w [e1, e2]) : Mem w0 w [e1] :=
  ⟨H.below, fun i e h => H.blk i e (by
    cases i with
    | zero => simpa using h
    | succ i => simp at h), fun i j e e' h h' hij => by
    cases i <;> cases j <;> simp_all⟩
theorem load_bool (b off : Nat) (v : Bool) (w : World) (c : w.cell? ⟨b, off, none⟩ = some (.bool v)) : (Instr.loadAt 4 (.pointer (some ⟨b, off, none⟩))).run Tryd.prog w = .ok (.bool v) w := by
  simp [go_sem, c]
theorem load_u8 (b off : Nat) (n : Int) (w : World) (c : w.cell? ⟨b, off, none⟩ = some (.int .u8 n)) : (Instr.loadAt 5 (.pointer (some ⟨b, off, none⟩))).run Tryd.prog w = .ok (.int .u8 n) w := by
  simp [go_sem, c]
theorem freeAt_zero (F : Nat → Nat → Int) (c : Int) : freeAt F 0 c = true := by simp [freeAt, allTo]
theorem freeAt_succ (F : Nat → Nat → Int) (k : Nat) (c : Int) : freeAt F (k + 1) c = (freeAt F k c && F k 0 != c) := by
  rw [Bool.eq_iff_iff]
  simp only [freeAt, Bool.and_eq_true, allTo_iff]
  constructor
  · intro h; exact ⟨fun i hi => h i (by omega), h k (by omega)⟩
  · rintro ⟨h1, h2⟩ i hi
    by_cases e : i = k
    · subst e; exact h2
    · exact h1 i (by omega)

end Go.Proofs.YtidddepdjokjcaaDoor
