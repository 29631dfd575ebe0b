/-
  Rows of structs of integers: as cells, element by element.
  What comes in, opened: rows of integers, fields.
  A region that draws its order, whose operations yield values told ahead (as relations of what they read), each in every world of a class that is closed under growth; some of them make memory: one walk in the order of the text serves every order; behind it a chain of operations in their order.
  Drawn regions by one walk, over the memory list: the steps of the walk for loads, calls and new blocks.
  Elements of slices in drawn regions; structs of integers compared.
  A region that draws its order and leaves open whether a part of an answer is taken out before or behind a store: it may be taken ahead (an edge more between the two says nothing less).
  Drawn regions in which a call reads what an earlier call has made.
  Results in a row's cell, others in slots beside it.
-/
import Derived.Test.YtaioflkonpommaaDoorCoreA
import Derived.Lib.Hide
import Derived.Laws.MakeOwn
import Derived.ProofKit
import Derived.OpenShut
import Derived.StillTail
import Derived.Deep.Quiet
import Derived.Below
import Derived.RangeFuncNested
import Derived.DeepKeys3
import Derived.Laws.ResultCell
namespace Go.Proofs.YtaioflkonpommaaDoor
section
open Go Go.RowKit

/-- The value of field j of element i; the kinds of the fields are ks. -/
def sget (ks : List IntKind) (F : Nat → Nat → Int) (i j : Nat) : Value := .int (ks.getD j .i64) (F i j)
/-- n elements, one behind the other. -/
def scells (ks : List IntKind) (n : Nat) (F : Nat → Nat → Int) : Array Value := ((List.range (n * ks.length)).map fun q => sget ks F (q / ks.length) (q % ks.length)).toArray
/-- One element. -/
def srow (ks : List IntKind) (F : Nat → Nat → Int) (i : Nat) : Array Value := ((List.range ks.length).map fun j => sget ks F i j).toArray
theorem scells_size (ks : List IntKind) (n : Nat) (F : Nat → Nat → Int) : (scells ks n F).size = n * ks.length := by simp [scells]
theorem srow_size (ks : List IntKind) (F : Nat → Nat → Int) (i : Nat) : (srow ks F i).size = ks.length := by simp [srow]
theorem srow_get (ks : List IntKind) (F : Nat → Nat → Int) (i j : Nat) (h : j < ks.length) : (srow ks F i)[j]? = some (sget ks F i j) := by simp [srow, h]
theorem place_lt {s n i j : Nat} (hi : i < n) (hj : j < s) : i * s + j < n * s := by
  have : (i + 1) * s ≤ n * s := Nat.mul_le_mul_right s hi
  rw [Nat.succ_mul] at this; omega
theorem scells_get (ks : List IntKind) (n : Nat) (F : Nat → Nat → Int) (i j : Nat) (hi : i < n) (hj : j < ks.length) : (scells ks n F)[i * ks.length + j]? = some (sget ks F i j) := by
  have hlt := place_lt hi hj
  have hs : 0 < ks.length := by omega
  have e1 : (i * ks.length + j) / ks.length = i := by rw [Nat.mul_comm, Nat.mul_add_div hs, Nat.div_eq_of_lt hj, Nat.add_zero]
  have e2 : (i * ks.length + j) % ks.length = j := by rw [Nat.mul_comm, Nat.mul_add_mod, Nat.mod_eq_of_lt hj]
  simp [scells, hlt, e1, e2]
theorem scells_one (ks : List IntKind) (n : Nat) (F : Nat → Nat → Int) : (scells ks n F).all (·.oneCell') = true := by
  rw [Array.all_eq_true_iff_forall_mem]; intro v hv; simp [scells] at hv; obtain ⟨i, _, rfl⟩ := hv; rfl
theorem srow_one (ks : List IntKind) (F : Nat → Nat → Int) (i : Nat) : (srow ks F i).all (·.oneCell') = true := by
  rw [Array.all_eq_true_iff_forall_mem]; intro v hv; simp [srow] at hv; obtain ⟨i, _, rfl⟩ := hv; rfl
theorem scells_ext {ks : List IntKind} {n : Nat} {F : Nat → Nat → Int} {cs : Array Value} (hs : cs.size = n * ks.length) (h : ∀ i j, i < n → j < ks.length → cs[i * ks.length + j]? = some (sget ks F i j)) : cs = scells ks n F := by
  apply Array.ext_getElem?
  intro q
  by_cases hq : q < n * ks.length
  · have hpos : 0 < ks.length := by
      rcases Nat.eq_zero_or_pos ks.length with e | e
      · rw [e] at hq; omega
      · exact e
    have e := Nat.div_add_mod q ks.length
    have hi : q / ks.length < n := (Nat.div_lt_iff_lt_mul hpos).2 hq
    have hj := Nat.mod_lt q hpos
    have e' : q / ks.length * ks.length + q % ks.length = q := by rw [Nat.mul_comm]; exact e
    rw [← e', h _ _ hi hj, scells_get ks n F _ _ hi hj]
  · rw [Array.getElem?_eq_none (by omega), Array.getElem?_eq_none (by rw [scells_size]; omega)]
theorem scells_congr {ks : List IntKind} {n : Nat} {F G : Nat → Nat → Int} (h : ∀ i j, i < n → j < ks.length → F i j = G i j) : scells ks n F = scells ks n G :=
  scells_ext (scells_size ks n F) (fun i j hi hj => by rw [scells_get ks n F i j hi hj]; unfold sget; rw [h i j hi hj])
/-- An element, as a part of the cells. -/
theorem Blk.elem {w : World} {b : Nat} {ks : List IntKind} {n : Nat} {F : Nat → Nat → Int} {t : TypeId} (h : Blk w b (scells ks n F) t) {i : Nat} (hi : i < n) : w.rangeAt b (i * ks.length) (srow ks F i).toList :=
  h.range (i * ks.length) (fun j hj => by rw [srow_size] at hj; rw [scells_get ks n F i j hi hj, srow_get ks F i j hj])
theorem Blk.elemThere {w : World} {b : Nat} {ks : List IntKind} {n : Nat} {F : Nat → Nat → Int} {t : TypeId} (h : Blk w b (scells ks n F) t) {i : Nat} (hi : i < n) : w.there b (i * ks.length) ks.length :=
  h.there _ _ (by
    rw [scells_size]
    have : (i + 1) * ks.length ≤ n * ks.length := Nat.mul_le_mul_right _ hi
    rw [Nat.succ_mul] at this; exact this)
/-- An element stored. -/
theorem Blk.setElem {w : World} {b : Nat} {ks : List IntKind} {n : Nat} {F G : Nat → Nat → Int} {t : TypeId} (h : Blk w b (scells ks n F) t) {i : Nat} (hi : i < n) {m : Nat} : Blk (w.setCells b (i * ks.length) (srow ks G m).toList) b (scells ks n (fun p => if p = i then G m else F p)) t := by
  obtain ⟨cs', h1, h2, h3⟩ := Blk.cells (srow ks G m).toList (scells ks n F) (i * ks.length) w h
  have e : cs' = scells ks n (fun p => if p = i then G m else F p) := by
    refine scells_ext (by rw [h2, scells_size]) (fun p j hp hj => ?_)
    rw [h3]
    have hlt := place_lt hp hj
    have hlen : (srow ks G m).toList.length = ks.length := by simp [srow]
    rw [hlen, scells_size]
    by_cases e : p = i
    · subst e
      rw [if_pos ⟨by omega, by omega, hlt⟩, show p * ks.length + j - p * ks.length = j by omega, Array.getElem?_toList, srow_get ks G m j hj]
      unfold sget; simp
    · rw [if_neg (fun hc => by
        rcases Nat.lt_or_gt_of_ne e with hl | hl
        · have : (p + 1) * ks.length ≤ i * ks.length := Nat.mul_le_mul_right _ hl
          rw [Nat.succ_mul] at this; omega
        · have : (i + 1) * ks.length ≤ p * ks.length := Nat.mul_le_mul_right _ hl
          rw [Nat.succ_mul] at this; omega), scells_get ks n F p j hp hj]
      unfold sget; simp [e]
  exact e ▸ h1
theorem made_scells {ks : List IntKind} {z : Array Value} (hz : z = srow ks (fun _ _ => 0) 0) (n : Nat) : madeCells z (n * ks.length) = scells ks n (fun _ _ => 0) := by
  subst hz
  refine scells_ext (by simp [madeCells]) (fun i j hi hj => ?_)
  have hlt := place_lt hi hj
  have e2 : (i * ks.length + j) % ks.length = j := by rw [Nat.mul_comm, Nat.mul_add_mod, Nat.mod_eq_of_lt hj]
  have e3 : (srow ks (fun _ _ => 0) 0)[j]! = sget ks (fun _ _ => 0) i j := by
    rw [getElem!_def, srow_get ks _ 0 j hj]; rfl
  simp [madeCells, hlt, srow_size, e2, e3]
/-- A slice made with a length. -/
theorem wpList_make {P : Program} {ops : Array Oper} {rest : List Oper} {op : Oper} {a : Act} {w : World} {Q : Exit → Act → World → Prop} {BY : Nat} (hgd : op.guard = none) (t e : TypeId) (x : Operand) (ho : op.op = .makeSlice t x x) (n : Nat) (hx : a.eval x = .int .i64 n) (ks : List IntKind)
    (ht : P.underlying t = some (.slice e)) (hi : (P.info? e).map (fun i => (i.size, i.bytes)) = some (ks.length, BY)) (hz : ((P.info? e).bind (·.zero)).map (·.cells) = some (srow ks (fun _ _ => 0) 0)) (hb : BY * n ≤ 281474976710656) (hn : n ≤ 9223372036854775807)
    (h : wpList P ops Q rest (a.put op.dst (.slice (some ⟨w.heap.size, 0, none⟩) n n)) (w.alloc (.cells (scells ks n (fun _ _ => 0)) e))) : wpList P ops Q (op :: rest) a w := by
  cases hie : P.info? e with
  | none => simp [hie] at hi
  | some i =>
    simp only [hie, Option.map_some, Option.some.injEq, Prod.mk.injEq, Option.bind_some] at hi hz
    obtain ⟨h1, h2⟩ := hi
    obtain ⟨z, hzz, hzc⟩ := Option.map_eq_some_iff.1 hz
    have hr := run_make (P := P) w t e i z ht hie hzz .i64 .i64 n n (by omega) (by omega) (by rw [h2]; omega) (by omega)
    rw [hzc, h1, Int.toNat_natCast, made_scells rfl] at hr
    refine wpList_run hgd (v := .slice (some ⟨w.heap.size, 0, none⟩) n n) ?_ h
    unfold execOp
    simp only [ho, hx, Sem.run_bind, hr, Result.andThen_ok, Sem.run_pure]
/-- A slice that came in: its elements' cells, from a place on. -/
def InS (w : World) (b o n : Nat) (ks : List IntKind) (F : Nat → Nat → Int) : Prop := ∀ i, i < n → w.rangeAt b (o + i * ks.length) (srow ks F i).toList
theorem InS.later {w w' : World} {b o n : Nat} {ks : List IntKind} {F : Nat → Nat → Int} (h : InS w b o n ks F) (hb : Below w.heap.size w w') : InS w' b o n ks F := fun i hi j v hj => by
  have := h i hi j v hj
  have hlt := World.block_lt_of_cell? _ _ this
  rw [← this]
  simp only [World.cell?, hb.block b hlt]
theorem InS.below {w w' : World} {B b o n : Nat} {ks : List IntKind} {F : Nat → Nat → Int} (h : InS w b o n ks F) (hb : Below B w w') (hB : ∀ i, i < n → b < B) : InS w' b o n ks F := fun i hi j v hj => by
  have := h i hi j v hj
  rw [← this]
  simp only [World.cell?, hb.block b (hB i hi)]
theorem InS.lt {w : World} {b o n : Nat} {ks : List IntKind} {F : Nat → Nat → Int} (h : InS w b o n ks F) (hs : 0 < ks.length) {i : Nat} (hi : i < n) : b < w.heap.size := by
  have := h i hi 0 (sget ks F i 0) (by rw [Array.getElem?_toList, srow_get ks F i 0 hs])
  exact World.block_lt_of_cell? _ _ this
/-- An element, in a later world. -/
theorem InS.elem {w w' : World} {b o n : Nat} {ks : List IntKind} {F : Nat → Nat → Int} (h : InS w b o n ks F) (_hs : 0 < ks.length) (hb : Below w.heap.size w w') {i : Nat} (hi : i < n) : w'.rangeAt b (o + i * ks.length) (srow ks F i).toList := h.later hb i hi
theorem Blk.inS {w : World} {b : Nat} {ks : List IntKind} {n : Nat} {F : Nat → Nat → Int} {t : TypeId} (h : Blk w b (scells ks n F) t) : InS w b 0 n ks F := fun i hi => by rw [Nat.zero_add]; exact h.elem hi
end
section
open Go Go.RowKit Go.WideShapes Go.ChangeShapes

/-- One integer out of a part of some cells. -/
theorem part_int {H : Type} {enc : TypeId × Value → H} {P : Program} {w : World} {base : Nat} {spare : Nat → Bool} {held : Bool} {m : Nat} {e : TypeId} {q : IntKind} {cs : List Value} {o : Nat} {x : DataW H × List MemPlace}
    (he : P.underlying e = some (.int q)) (hx : DataW.trod enc P w base spare held m e ((cs.drop o).take 1) = some x) : ∃ k, cs[o]? = some (.int q k) ∧ (Lit.int q k).wf = true := by
  obtain ⟨k, h1, _, h3⟩ := DataW.trod_int he hx
  refine ⟨k, ?_, h3⟩
  have : ((cs.drop o).take 1)[0]? = some (.int q k) := by rw [h1]; rfl
  simpa using this

theorem row_ints {H : Type} {enc : TypeId × Value → H} {P : Program} {w : World} {base : Nat} {spare : Nat → Bool} {held : Bool} {t e : TypeId} {n fuel : Nat} {q : IntKind} {cs : List Value} {x : DataW H × List MemPlace}
    (hu : P.underlying t = some (.array n e)) (he : P.underlying e = some (.int q)) (hce : P.cellsOf e = 1) (hx : DataW.trod enc P w base spare held fuel t cs = some x) :
    ∃ f : Nat → Int, (∀ i, i < n → cs[i]? = some (.int q (f i))) ∧ ∀ i, i < n → (Lit.int q (f i)).wf = true := by
  obtain ⟨xs, m, _, _, _, hl, hel⟩ := DataW.trod_array hu hx
  have key : ∀ i, ∃ k : Int, i < n → cs[i]? = some (.int q k) ∧ (Lit.int q k).wf = true := fun i => by
    by_cases hi : i < n
    · have h := hel i hi
      rw [hce, Nat.mul_one, List.getElem?_eq_getElem (by omega)] at h
      obtain ⟨k, h1, h2⟩ := part_int he h
      exact ⟨k, fun _ => ⟨h1, h2⟩⟩
    · exact ⟨0, fun h => absurd h hi⟩
  exact ⟨fun i => Classical.choose (key i), fun i hi => (Classical.choose_spec (key i) hi).1, fun i hi => (Classical.choose_spec (key i) hi).2⟩

theorem okWide_row {P : Program} {w : World} {r : Reach} {base : Nat} {t e : TypeId} {n : Nat} {v : Value} (hu : P.underlying t = some (.array n e)) (h : Value.okWide P w r base t v) : ∃ cs, v = .agg cs ∧ cs.size = P.cellsOf t := by
  simp only [Value.okWide, hu] at h
  obtain ⟨cs, h1, h2, _⟩ := h
  exact ⟨cs, h1, h2⟩

theorem open_row {H : Type} {enc : TypeId × Value → H} {P : Program} {w : World} {b0 base : Nat} {r : Reach} {spare : Nat → Bool} {held : Bool} {t e : TypeId} {n : Nat} {q : IntKind} {v : Value} {d : DataW H} {p : List MemPlace}
    (hu : P.underlying t = some (.array n e)) (he : P.underlying e = some (.int q)) (hce : P.cellsOf e = 1) (hct : P.cellsOf t = n)
    (hv : Value.okWide P w r b0 t v) (h : DataW.Trod enc P w base spare held t v d p) : ∃ f : Nat → Int, v = .agg (acells q n f) ∧ ∀ i, i < n → (Lit.int q (f i)).wf = true := by
  obtain ⟨cs, rfl, hs⟩ := okWide_row hu hv
  obtain ⟨fuel, hf⟩ := h
  obtain ⟨f, h1, h2⟩ := row_ints hu he hce hf
  have e := acells_ext (k := q) (n := n) (f := f) (cs := cs) (by rw [hs, hct]) (fun i hi => by have := h1 i hi; simpa [Value.cells] using this)
  exact ⟨f, by rw [e], h2⟩

theorem open_field {H : Type} {enc : TypeId × Value → H} {P : Program} {w : World} {b0 base : Nat} {r : Reach} {spare : Nat → Bool} {held : Bool} {t t8 tK eK tS eS : TypeId} {fs : Array Field} {v : Value} {d : DataW H} {p : List MemPlace}
    (hu : P.underlying t = some (.struct fs)) (hfs : fs.toList.map (fun x => (x.type, x.offset)) = [(t8, 0), (t8, 1), (tK, 2), (tS, 102)]) (h8 : P.underlying t8 = some (.int .i8)) (hK : P.underlying tK = some (.array 100 eK)) (heK : P.underlying eK = some (.int .u8))
    (hS : P.underlying tS = some (.array 100 eS)) (heS : P.underlying eS = some (.int .i16)) (hct : P.cellsOf t = 202) (hc8 : P.cellsOf t8 = 1) (hcK : P.cellsOf tK = 100) (hcS : P.cellsOf tS = 100) (hceK : P.cellsOf eK = 1) (hceS : P.cellsOf eS = 1)
    (hv : Value.okWide P w r b0 t v) (h : DataW.Trod enc P w base spare held t v d p) : ∃ f : Fd, v = .agg (fcells f) ∧ f.Wf := by
  obtain ⟨cs, rfl, hs⟩ := okWide_struct hu hv
  obtain ⟨fuel, hf⟩ := h
  obtain ⟨xs, m, _, _, _, hl, hel⟩ := DataW.trod_struct hu hf
  obtain ⟨l⟩ := fs
  have hlen : l.length = 4 := by have := congrArg List.length hfs; simpa using this
  match l, hlen, hfs, hl, hel with
  | [a, b, c, e], _, hfs, hl, hel =>
    simp only [List.map_cons, List.map_nil, List.cons.injEq, Prod.mk.injEq, and_true] at hfs
    obtain ⟨⟨t0, o0⟩, ⟨t1, o1⟩, ⟨t2, o2⟩, ⟨t3, o3⟩⟩ := hfs
    have hx : ∀ i, i < 4 → ∃ y, xs[i]? = some y := fun i hi => by
      have : i < xs.length := by rw [hl]; exact hi
      exact ⟨_, List.getElem?_eq_getElem this⟩
    obtain ⟨y0, e0⟩ := hx 0 (by omega)
    obtain ⟨y1, e1⟩ := hx 1 (by omega)
    obtain ⟨y2, e2⟩ := hx 2 (by omega)
    obtain ⟨y3, e3⟩ := hx 3 (by omega)
    have q0 := hel 0 a rfl
    have q1 := hel 1 b rfl
    have q2 := hel 2 c rfl
    have q3 := hel 3 e rfl
    rw [t0, o0, hc8, e0] at q0
    rw [t1, o1, hc8, e1] at q1
    rw [t2, o2, hcK, e2] at q2
    rw [t3, o3, hcS, e3] at q3
    obtain ⟨W, g0, w0⟩ := part_int h8 q0
    obtain ⟨Hh, g1, w1⟩ := part_int h8 q1
    obtain ⟨K, g2, w2⟩ := row_ints hK heK hceK q2
    obtain ⟨S, g3, w3⟩ := row_ints hS heS hceS q3
    have look : ∀ {o n i : Nat} {x : Value}, i < n → (((Value.agg cs).cells.toList.drop o).take n)[i]? = some x → cs[o + i]? = some x := fun {o n i x} hi h => by
      rw [List.getElem?_take, if_pos hi, List.getElem?_drop] at h
      simpa [Value.cells] using h
    have ec : cs = fcells ⟨W, Hh, K, S⟩ := fcells_ext (by rw [hs, hct]) (by simpa [Value.cells] using g0) (by simpa [Value.cells] using g1) (fun i hi => look hi (g2 i hi)) (fun i hi => look hi (g3 i hi))
    exact ⟨_, by rw [ec], ⟨bounds_i8 w0, bounds_i8 w1, fun i hi => bounds_u8 (w2 i hi), fun i hi => bounds_i16 (w3 i hi)⟩⟩
end
section
open Go Go.RowKit

section
variable {P : Program} {ops : Array Oper} {md : Region.Mode} {C : World → Prop}

/-- What an operation leaves: a value, the blocks that it made (from lo up to hi), and what is true of the world from then on. -/
abbrev RelD := Nat → Array Value → Value → Nat → Nat → World → Prop
/-- What has been left so far, by the operations' numbers. -/
abbrev Left := Nat → Option (Nat × Nat × (World → Prop))
def Left.upd (g : Left) (i : Nat) (x : Nat × Nat × (World → Prop)) : Left := fun j => if j = i then some x else g j
theorem Left.upd_comm (g : Left) {i j : Nat} (x y : Nat × Nat × (World → Prop)) (h : i ≠ j) : (g.upd i x).upd j y = (g.upd j y).upd i x := by
  funext k; unfold Left.upd
  by_cases hi : k = i <;> by_cases hj : k = j <;> simp [hi, hj]
  · exact absurd (hi.symm.trans hj) h
  · subst hi; intro e; exact absurd e h
  · subst hj; intro e; exact absurd e.symm h

def relUpon (P : Program) (w : World) (R : Value → Nat → Nat → World → Prop) : Result Next → Prop
  | .ok (.value u) w' => Below w.heap.size w w' ∧ R u w.heap.size w'.heap.size w'
  | .ok .skip w' => Below w.heap.size w w' ∧ R undef w.heap.size w'.heap.size w'
  | .ok (.enter f args) w' => w' = w ∧ Calls P f args w (fun e w'' => ∃ u, e = .returned u ∧ Below w.heap.size w w'' ∧ R u w.heap.size w''.heap.size w'')
  | _ => False
def readBy (o : Oper) (a : Act) : Array Value := o.op.operands.map a.eval
/-- What is known of the values that an operation reads. -/
def Known (ops : Array Oper) (o : Oper) (g : Left) (w : World) : Prop := ∀ k ok d x, ops[k]? = some ok → ok.dst = some d → d ∈ o.looksAt ops → g k = some x → x.2.2 w
/-- All that has been left holds. -/
def Facts (g : Left) (w : World) : Prop := ∀ k x, g k = some x → x.2.1 ≤ w.heap.size ∧ x.2.2 w
def GStay (g : Left) : Prop := ∀ k x, g k = some x → ∀ w w', x.2.2 w → x.2.1 ≤ w.heap.size → Below w.heap.size w w' → x.2.2 w'
structure Good (C : World → Prop) (g : Left) : Prop where
  ex : ∃ w, C w ∧ Facts g w
  stay : GStay g
/-- In every world of the class the operation goes as told. -/
def GoesAs (P : Program) (C : World → Prop) (D : RelD) (i : Nat) (o : Oper) (a : Act) : Prop := ∀ w, C w → relUpon P w (D i (readBy o a)) ((execOp a.eval o).run P w)
/-- The same, where what it reads is as it was left. -/
def GoesF (P : Program) (ops : Array Oper) (C : World → Prop) (D : RelD) (i : Nat) (o : Oper) (a : Act) (g : Left) : Prop := ∀ w, C w → Known ops o g w → relUpon P w (D i (readBy o a)) ((execOp a.eval o).run P w)
def Valid (C : World → Prop) (D : RelD) (i : Nat) (o : Oper) (a : Act) (g : Left) (v : Value) (lo hi : Nat) : Prop := lo ≤ hi ∧ ∃ w, C w ∧ Facts (g.upd i (lo, hi, D i (readBy o a) v lo hi)) w
def RunsOk (P : Program) (ops : Array Oper) (C : World → Prop) (D : RelD) (i : Nat) (o : Oper) (a : Act) (g : Left) : Prop := Region.wanted o (yielded ops a.tmps) = true → GoesF P ops C D i o a g
def NextR (ops : Array Oper) (C : World → Prop) (D : RelD) (i : Nat) (o : Oper) (K : Act → Left → Prop) (a : Act) (g : Left) : Prop :=
  if Region.wanted o (yielded ops a.tmps) then ∀ v lo hi, Valid C D i o a g v lo hi → K (a.put o.dst v) (g.upd i (lo, hi, D i (readBy o a) v lo hi)) else K (a.put o.dst undef) g
def relOp (P : Program) (ops : Array Oper) (C : World → Prop) (D : RelD) (i : Nat) (K : Act → Left → Prop) (a : Act) (g : Left) : Prop :=
  match ops[i]? with
  | none => K a g
  | some o => RunsOk P ops C D i o a g ∧ NextR ops C D i o K a g
/-- What comes of g by an operation. -/
def Comes (C : World → Prop) (D : RelD) (i : Nat) (o : Oper) (a : Act) (g g' : Left) : Prop := g' = g ∨ ∃ v lo hi, Valid C D i o a g v lo hi ∧ g' = g.upd i (lo, hi, D i (readBy o a) v lo hi)

theorem Left.upd_at (g : Left) (i : Nat) (x : Nat × Nat × (World → Prop)) : g.upd i x i = some x := by unfold Left.upd; rw [if_pos rfl]
theorem Left.upd_ne (g : Left) {i k : Nat} (x : Nat × Nat × (World → Prop)) (h : k ≠ i) : g.upd i x k = g k := by unfold Left.upd; rw [if_neg h]
theorem NextR.mono' {D : RelD} {i : Nat} {o : Oper} {K K' : Act → Left → Prop} {a : Act} {g : Left} (h : ∀ a' g', Comes C D i o a g g' → K a' g' → K' a' g') (hh : NextR ops C D i o K a g) : NextR ops C D i o K' a g := by
  unfold NextR at *
  split
  · rename_i hw; rw [if_pos hw] at hh; exact fun v lo hi hv => h _ _ (.inr ⟨v, lo, hi, hv, rfl⟩) (hh v lo hi hv)
  · rename_i hw; rw [if_neg hw] at hh; exact h _ _ (.inl rfl) hh
theorem NextR.mono {D : RelD} {i : Nat} {o : Oper} {K K' : Act → Left → Prop} {a : Act} {g : Left} (h : ∀ a g, K a g → K' a g) (hh : NextR ops C D i o K a g) : NextR ops C D i o K' a g := hh.mono' (fun a' g' _ => h a' g')
theorem relOp_mono' {D : RelD} {i : Nat} {K K' : Act → Left → Prop} {a : Act} {g : Left} (h : ∀ a' g', (g' = g ∨ ∃ o, ops[i]? = some o ∧ Comes C D i o a g g') → K a' g' → K' a' g') (hh : relOp P ops C D i K a g) : relOp P ops C D i K' a g := by
  unfold relOp at *
  split
  · rename_i ho; simp only [ho] at hh; exact h _ _ (.inl rfl) hh
  · rename_i o ho; simp only [ho] at hh; exact ⟨hh.1, hh.2.mono' (fun a' g' hc => h a' g' (.inr ⟨o, ho, hc⟩))⟩

/-- What holds of the world. -/
structure Inv (C : World → Prop) (base : Nat) (g : Left) (w : World) : Prop where
  cls : C w
  ge : base ≤ w.heap.size
  fact : ∀ i x, g i = some x → base ≤ x.1 ∧ x.1 ≤ x.2.1 ∧ x.2.1 ≤ w.heap.size ∧ x.2.2 w
  stay : ∀ i x, g i = some x → ∀ w w', x.2.2 w → x.2.1 ≤ w.heap.size → Below w.heap.size w w' → x.2.2 w'
  apart : ∀ i j x y, g i = some x → g j = some y → i ≠ j → x.2.1 ≤ y.1 ∨ y.2.1 ≤ x.1
def Grows (C : World → Prop) : Prop := ∀ w w', C w → Below w.heap.size w w' → C w'
def Stays (D : RelD) : Prop := ∀ i vs v lo hi w w', D i vs v lo hi w → hi ≤ w.heap.size → Below w.heap.size w w' → D i vs v lo hi w'

theorem Inv.facts {base : Nat} {g : Left} {w : World} (h : Inv C base g w) : Facts g w := fun k x hx => (h.fact k x hx).2.2
theorem Facts.known {g : Left} {w : World} {o : Oper} (h : Facts g w) : Known ops o g w := fun k _ _ x _ _ _ hx => (h k x hx).2
theorem Inv.grow {base : Nat} {g : Left} {w w' : World} (hC : Grows C) (h : Inv C base g w) (hb : Below w.heap.size w w') : Inv C base g w' :=
  ⟨hC _ _ h.cls hb, Nat.le_trans h.ge hb.size, fun i x hx => ⟨(h.fact i x hx).1, (h.fact i x hx).2.1, Nat.le_trans (h.fact i x hx).2.2.1 hb.size, h.stay i x hx w w' (h.fact i x hx).2.2.2 (h.fact i x hx).2.2.1 hb⟩, h.stay, h.apart⟩
theorem Inv.put {base : Nat} {g : Left} {w w' : World} {D : RelD} {i : Nat} {vs : Array Value} {v : Value} (hC : Grows C) (hD : Stays D) (h : Inv C base g w) (hb : Below w.heap.size w w') (hv : D i vs v w.heap.size w'.heap.size w') :
    Inv C base (g.upd i (w.heap.size, w'.heap.size, D i vs v w.heap.size w'.heap.size)) w' := by
  have h' := h.grow hC hb
  have key : ∀ j x, (g.upd i (w.heap.size, w'.heap.size, D i vs v w.heap.size w'.heap.size)) j = some x → (j = i ∧ x = (w.heap.size, w'.heap.size, D i vs v w.heap.size w'.heap.size)) ∨ (j ≠ i ∧ g j = some x) := fun j x hx => by
    unfold Left.upd at hx
    split at hx
    · exact .inl ⟨by assumption, (Option.some.inj hx).symm⟩
    · exact .inr ⟨by assumption, hx⟩
  refine ⟨h'.cls, h'.ge, fun j x hx => ?_, fun j x hx => ?_, fun j k x y hx hy hjk => ?_⟩
  · rcases key j x hx with ⟨_, rfl⟩ | ⟨_, hx⟩
    · exact ⟨h.ge, hb.size, Nat.le_refl _, hv⟩
    · exact h'.fact j x hx
  · rcases key j x hx with ⟨_, rfl⟩ | ⟨_, hx⟩
    · exact fun w1 w2 => hD i vs v _ _ w1 w2
    · exact h'.stay j x hx
  · rcases key j x hx with ⟨hj, rfl⟩ | ⟨hj, hx⟩ <;> rcases key k y hy with ⟨hk, rfl⟩ | ⟨hk, hy⟩
    · exact absurd (hj.trans hk.symm) hjk
    · exact .inr (h.fact k y hy).2.2.1
    · exact .inl (h.fact j x hx).2.2.1
    · exact h.apart j k x y hx hy hjk

/-- The walk in the order of the text. -/
def wpRel (P : Program) (ops : Array Oper) (C : World → Prop) (D : RelD) (Q : Act → Left → Prop) : List Oper → Nat → Act → Left → Prop
  | [], _, a, g => Q a g
  | o :: rest, k, a, g => RunsOk P ops C D k o a g ∧ NextR ops C D k o (wpRel P ops C D Q rest (k + 1)) a g

theorem relOp_first {D : RelD} {i : Nat} {oi : Oper} {K : Act → Left → Prop} {a : Act} {g : Left} (hi : ops[i]? = some oi) (h1 : RunsOk P ops C D i oi a g) (h2 : NextR ops C D i oi K a g) : relOp P ops C D i K a g := by
  unfold relOp; simp only [hi]; exact ⟨h1, h2⟩

theorem facts_put {D : RelD} {i : Nat} {o : Oper} {a : Act} {g : Left} {w w' : World} {u : Value} (hs : GStay g) (hf : Facts g w) (hb : Below w.heap.size w w') (hR : D i (readBy o a) u w.heap.size w'.heap.size w') :
    Facts (g.upd i (w.heap.size, w'.heap.size, D i (readBy o a) u w.heap.size w'.heap.size)) w' := fun k x hx => by
  unfold Left.upd at hx
  split at hx
  · cases hx; exact ⟨Nat.le_refl _, hR⟩
  · exact ⟨Nat.le_trans (hf k x hx).1 hb.size, hs k x hx w w' (hf k x hx).2 (hf k x hx).1 hb⟩
theorem valid_of_goes {D : RelD} {i : Nat} {o : Oper} {a : Act} {g : Left} (hC : Grows C) (hG : Good C g) (h : GoesF P ops C D i o a g) : ∃ v lo hi, Valid C D i o a g v lo hi := by
  obtain ⟨w, hw, hf⟩ := hG.ex
  have h1 := h w hw hf.known
  unfold relUpon at h1
  generalize (execOp a.eval o).run P w = r at h1
  match r, h1 with
  | .ok (.value u) w', ⟨hb, hR⟩ => exact ⟨u, _, _, hb.size, w', hC _ _ hw hb, facts_put hG.stay hf hb hR⟩
  | .ok .skip w', ⟨hb, hR⟩ => exact ⟨undef, _, _, hb.size, w', hC _ _ hw hb, facts_put hG.stay hf hb hR⟩
  | .ok (.enter f args) w', ⟨_, hc⟩ =>
    obtain ⟨e, w2, fr, ⟨u, _, hb, hR⟩, _⟩ := hc []
    exact ⟨u, _, _, hb.size, w2, hC _ _ hw hb, facts_put hG.stay hf hb hR⟩
theorem good_of {D : RelD} {i : Nat} {o : Oper} {a : Act} {g g' : Left} (hD : Stays D) (hG : Good C g) (h : Comes C D i o a g g') : Good C g' := by
  rcases h with rfl | ⟨v, lo, hi, ⟨_, hw⟩, rfl⟩
  · exact hG
  · refine ⟨hw, fun k x hx => ?_⟩
    unfold Left.upd at hx
    split at hx
    · cases hx; exact fun w w' => hD i _ v lo hi w w'
    · exact hG.stay k x hx
theorem none_of {D : RelD} {i : Nat} {o : Oper} {a : Act} {g g' : Left} {k : Nat} (h : Comes C D i o a g g') (hk : k ≠ i) (hg : g k = none) : g' k = none := by
  rcases h with rfl | ⟨v, lo, hi, _, rfl⟩
  · exact hg
  · rw [Left.upd_ne _ _ hk]; exact hg

theorem readBy_put {o : Oper} (a : Act) (dst : Option Tmp) (v : Value) (h : ∀ d, dst = some d → d ∉ o.looksAt ops) : readBy o (a.put dst v) = readBy o a := by
  unfold readBy
  refine Array.map_congr_left fun x hx => Act.eval_put fun d hd hxd => h d hd (by
    subst hxd
    exact List.mem_append_left _ (List.mem_filterMap.2 ⟨.tmp d, by simpa using hx, rfl⟩))
theorem known_upd {o oi : Oper} {i : Nat} {g : Left} {x : Nat × Nat × (World → Prop)} {w : World} (hi : ops[i]? = some oi) (h : ∀ d, oi.dst = some d → d ∉ o.looksAt ops) : Known ops o (g.upd i x) w ↔ Known ops o g w := by
  have ne : ∀ k ok d, ops[k]? = some ok → ok.dst = some d → d ∈ o.looksAt ops → k ≠ i := fun k ok d h1 h2 h3 e => by
    subst e; rw [hi] at h1; cases h1; exact h d h2 h3
  constructor
  · intro hk k ok d y h1 h2 h3 h4
    exact hk k ok d y h1 h2 h3 (by rw [Left.upd_ne _ _ (ne k ok d h1 h2 h3)]; exact h4)
  · intro hk k ok d y h1 h2 h3 h4
    rw [Left.upd_ne _ _ (ne k ok d h1 h2 h3)] at h4
    exact hk k ok d y h1 h2 h3 h4
theorem goesF_put {D : RelD} {i : Nat} {o : Oper} (hs : ∀ cs b, o.op ≠ .select cs b) (a : Act) (g : Left) (dst : Option Tmp) (v : Value) (h : ∀ d, dst = some d → d ∉ o.looksAt ops) : GoesF P ops C D i o (a.put dst v) g ↔ GoesF P ops C D i o a g := by
  unfold GoesF; rw [readBy_put a dst v h, execOp_put o hs a dst v h]
theorem runsOk_put {D : RelD} {i : Nat} {o : Oper} (hs : ∀ cs b, o.op ≠ .select cs b) (a : Act) (g : Left) (dst : Option Tmp) (v : Value) (h : ∀ d, dst = some d → d ∉ o.looksAt ops) : RunsOk P ops C D i o (a.put dst v) g ↔ RunsOk P ops C D i o a g := by
  unfold RunsOk; rw [goesF_put hs a g dst v h, wanted_put o a dst v h]
theorem runsOk_upd {D : RelD} {i j : Nat} {o oj : Oper} (a : Act) (g : Left) (x : Nat × Nat × (World → Prop)) (hj : ops[j]? = some oj) (h : ∀ d, oj.dst = some d → d ∉ o.looksAt ops) : RunsOk P ops C D i o a (g.upd j x) ↔ RunsOk P ops C D i o a g := by
  unfold RunsOk GoesF
  constructor
  · exact fun h1 hw w hc hk => h1 hw w hc ((known_upd hj h).2 hk)
  · exact fun h1 hw w hc hk => h1 hw w hc ((known_upd hj h).1 hk)
theorem valid_put {D : RelD} {i : Nat} {o : Oper} (a : Act) (g : Left) (dst : Option Tmp) (v : Value) (h : ∀ d, dst = some d → d ∉ o.looksAt ops) (u : Value) (lo hi : Nat) : Valid C D i o (a.put dst v) g u lo hi ↔ Valid C D i o a g u lo hi := by
  unfold Valid; rw [readBy_put a dst v h]
theorem facts_less {g : Left} {i j : Nat} {x y : Nat × Nat × (World → Prop)} {w : World} (hij : i ≠ j) (hgj : g j = none) (h : Facts ((g.upd j y).upd i x) w) : Facts (g.upd i x) w := fun k z hz => by
  by_cases hki : k = i
  · subst hki; exact h k z (by rw [Left.upd_at] at hz ⊢; exact hz)
  · by_cases hkj : k = j
    · subst hkj; rw [Left.upd_ne _ _ hki, hgj] at hz; cases hz
    · exact h k z (by rw [Left.upd_ne _ _ hki] at hz ⊢; rw [Left.upd_ne _ _ hkj]; exact hz)

/-- Two operations that are apart change places. -/
theorem relOp_swap {D : RelD} {i j : Nat} {oi oj : Oper} (hC : Grows C) (hij : i ≠ j) (hi : ops[i]? = some oi) (hj : ops[j]? = some oj) (hap : oi.apart ops oj = true)
    (hsi : ∀ cs b, oi.op ≠ .select cs b) (hsj : ∀ cs b, oj.op ≠ .select cs b) {K : Act → Left → Prop} {a : Act} {g : Left} (hG : Good C g) (_hgi : g i = none) (hgj : g j = none)
    (h1 : RunsOk P ops C D i oi a g) (h2 : NextR ops C D i oi (relOp P ops C D j K) a g) :
    relOp P ops C D j (fun a' g' => RunsOk P ops C D i oi a' g' ∧ NextR ops C D i oi K a' g') a g := by
  obtain ⟨q1, q2, q3⟩ := Oper.apart_spec hap
  by_cases hwi : Region.wanted oi (yielded ops a.tmps) = true
  · unfold NextR at h2
    rw [if_pos hwi] at h2
    obtain ⟨v0, lo0, hi0, hv0⟩ := valid_of_goes hC hG (h1 hwi)
    have hjj := h2 v0 lo0 hi0 hv0
    unfold relOp at hjj ⊢
    simp only [hj] at hjj ⊢
    refine ⟨(runsOk_put hsj a g oi.dst v0 q1).1 ((runsOk_upd _ g _ hi q1).1 hjj.1), ?_⟩
    unfold NextR
    split
    · rename_i hwj
      intro u lo hi2 hu
      refine ⟨(runsOk_upd _ g _ hj q3).2 ((runsOk_put hsi a g oj.dst u q3).2 h1), ?_⟩
      rw [wanted_put oi a oj.dst u q3, if_pos hwi]
      intro v lo' hi' hv
      have hv0 := (valid_put a _ oj.dst u q3 v lo' hi').1 hv
      have hv' : Valid C D i oi a g v lo' hi' := by
        obtain ⟨hle, w, hw, hf⟩ := hv0
        exact ⟨hle, w, hw, facts_less hij hgj hf⟩
      have hu' : Valid C D j oj a (g.upd i (lo', hi', D i (readBy oi a) v lo' hi')) u lo hi2 := by
        obtain ⟨hle, w, hw, hf⟩ := hv0
        refine ⟨hu.1, w, hw, ?_⟩
        rw [Left.upd_comm g _ _ hij]; exact hf
      have h3 := h2 v lo' hi' hv'
      unfold relOp at h3
      simp only [hj] at h3
      have h4 := h3.2
      unfold NextR at h4
      rw [wanted_put oj a oi.dst v q1, if_pos hwj] at h4
      have h5 := h4 u lo hi2 ((valid_put a _ oi.dst v q1 u lo hi2).2 hu')
      rw [readBy_put a oi.dst v q1, Act.put_comm a v u q2, Left.upd_comm g _ _ hij] at h5
      rw [readBy_put a oj.dst u q3]
      exact h5
    · rename_i hwj
      refine ⟨(runsOk_put hsi a g oj.dst undef q3).2 h1, ?_⟩
      rw [wanted_put oi a oj.dst undef q3, if_pos hwi]
      intro v lo' hi' hv
      have hv' := (valid_put a g oj.dst undef q3 v lo' hi').1 hv
      have h3 := h2 v lo' hi' hv'
      unfold relOp at h3
      simp only [hj] at h3
      have h4 := h3.2
      unfold NextR at h4
      rw [wanted_put oj a oi.dst v q1, if_neg hwj, Act.put_comm a v undef q2] at h4
      rw [readBy_put a oj.dst undef q3]
      exact h4
  · unfold NextR at h2
    rw [if_neg hwi] at h2
    unfold relOp at h2 ⊢
    simp only [hj] at h2 ⊢
    refine ⟨(runsOk_put hsj a g oi.dst undef q1).1 h2.1, ?_⟩
    have h4 := h2.2
    unfold NextR at h4 ⊢
    rw [wanted_put oj a oi.dst undef q1] at h4
    split
    · rename_i hwj
      rw [if_pos hwj] at h4
      intro u lo hi2 hu
      refine ⟨(runsOk_upd _ g _ hj q3).2 ((runsOk_put hsi a g oj.dst u q3).2 h1), ?_⟩
      rw [wanted_put oi a oj.dst u q3, if_neg hwi, ← Act.put_comm a undef u q2]
      have h5 := h4 u lo hi2 ((valid_put a g oi.dst undef q1 u lo hi2).2 hu)
      rw [readBy_put a oi.dst undef q1] at h5
      exact h5
    · rename_i hwj
      rw [if_neg hwj] at h4
      refine ⟨(runsOk_put hsi a g oj.dst undef q3).2 h1, ?_⟩
      rw [wanted_put oi a oj.dst undef q3, if_neg hwi, ← Act.put_comm a undef undef q2]
      exact h4

/-- Whatever order is picked from here on, up to f operations, all below n; then L. -/
def wpAnyR (P : Program) (md : Region.Mode) (ops : Array Oper) (C : World → Prop) (D : RelD) (n : Nat) (L : Array Bool → Act → Left → Prop) : Nat → Array Bool → Act → Left → Prop
  | 0, listed, a, g => L listed a g
  | f + 1, listed, a, g =>
    Region.ready md ops listed ≠ [] ∧ ∀ i ∈ Region.ready md ops listed, i < n ∧ relOp P ops C D i (wpAnyR P md ops C D n L f (listed.setIfInBounds i true)) a g

theorem unlisted_set {listed : Array Bool} {i k : Nat} (hun : listed.getD i true = false) (hk : (listed.setIfInBounds i true).getD k true = false) : k ≠ i ∧ listed.getD k true = false := by
  by_cases hik : i = k
  · subst hik
    exfalso
    have hlt : i < listed.size := by
      rcases Nat.lt_or_ge i listed.size with h' | h'
      · exact h'
      · simp [Array.getElem?_eq_none h'] at hun
    simp [hlt] at hk
  · rw [getD_set_ne true hik] at hk
    exact ⟨fun e => hik e.symm, hk⟩

theorem wpAnyR_first {D : RelD} {n i : Nat} {oi : Oper} {L : Array Bool → Act → Left → Prop} (hC : Grows C) (hD : Stays D) (hi : ops[i]? = some oi) (hsel : ∀ (j : Nat) (o : Oper) cs b, ops[j]? = some o → o.op ≠ .select cs b)
    (hin : i < n) (hdone : ∀ listed a g, L listed a g → ∀ j ∈ Region.ready md ops listed, n ≤ j) (I : Array Bool → Prop)
    (hI : ∀ listed j, I listed → j ∈ Region.ready md ops listed → j < n → I (listed.setIfInBounds j true))
    (hlt : ∀ listed, I listed → i ∈ Region.ready md ops listed → ∀ j ∈ Region.ready md ops listed, j < n) :
    ∀ (f : Nat) (listed : Array Bool) (a : Act) (g : Left), I listed → Good C g → (∀ k, listed.getD k true = false → g k = none) →
      (∀ j oj, ops[j]? = some oj → j ≠ i → listed.getD j true = false → (∀ e ∈ oj.after, Region.binds md e = true → e.on ≠ i) → oi.apart ops oj = true) →
      i ∈ Region.ready md ops listed → RunsOk P ops C D i oi a g →
      NextR ops C D i oi (wpAnyR P md ops C D n L f (listed.setIfInBounds i true)) a g → wpAnyR P md ops C D n L (f + 1) listed a g := by
  intro f
  induction f with
  | zero =>
    intro listed a g inv hG hg _ hr hy H
    refine ⟨fun h => (by rw [h] at hr; cases hr), fun j hj => ⟨hlt listed inv hr j hj, ?_⟩⟩
    by_cases hji : j = i
    · subst hji; exact relOp_first hi hy H
    · exfalso
      have hjn := hlt listed inv hr j hj
      by_cases hwi : Region.wanted oi (yielded ops a.tmps) = true
      · obtain ⟨v0, lo0, hi0, hv0⟩ := valid_of_goes hC hG (hy hwi)
        unfold NextR at H; rw [if_pos hwi] at H
        have := hdone _ _ _ (H v0 lo0 hi0 hv0) j (ready_mono hj hji)
        omega
      · unfold NextR at H; rw [if_neg hwi] at H
        have := hdone _ _ _ H j (ready_mono hj hji)
        omega
  | succ f ih =>
    intro listed a g inv hG hg hfree hr hy H
    refine ⟨fun h => (by rw [h] at hr; cases hr), fun j hj => ⟨hlt listed inv hr j hj, ?_⟩⟩
    by_cases hji : j = i
    · subst hji; exact relOp_first hi hy H
    · have hjn := hlt listed inv hr j hj
      obtain ⟨hjun, oj, hoj, hall⟩ := mem_ready.1 hj
      have hnot : ∀ e ∈ oj.after, Region.binds md e = true → e.on ≠ i := fun e he hb heq => by
        have h1 := hall e he hb
        have h0 := (mem_ready.1 hr).1
        rw [heq, getD_both h0] at h1
        cases h1
      have h1 : NextR ops C D i oi (relOp P ops C D j (wpAnyR P md ops C D n L f ((listed.setIfInBounds i true).setIfInBounds j true))) a g :=
        H.mono fun a' g' h' => (h'.2 j (ready_mono hj hji)).2
      have h2 := relOp_swap hC (fun e => hji e.symm) hi hoj (hfree j oj hoj hji hjun hnot) (fun cs b => hsel i oi cs b hi) (fun cs b => hsel j oj cs b hoj) hG (hg i (mem_ready.1 hr).1) (hg j hjun) hy h1
      have hfree' : ∀ k ok, ops[k]? = some ok → k ≠ i → (listed.setIfInBounds j true).getD k true = false →
          (∀ e ∈ ok.after, Region.binds md e = true → e.on ≠ i) → oi.apart ops ok = true := fun k ok hk hki hun hno => hfree k ok hk hki (unlisted_set hjun hun).2 hno
      refine relOp_mono' (fun a' g' hc h3 => ?_) h2
      have hG' : Good C g' := by
        rcases hc with rfl | ⟨o, _, hc⟩
        · exact hG
        · exact good_of hD hG hc
      have hg' : ∀ k, (listed.setIfInBounds j true).getD k true = false → g' k = none := fun k hk => by
        obtain ⟨hkj, hkl⟩ := unlisted_set hjun hk
        rcases hc with rfl | ⟨o, _, hc⟩
        · exact hg k hkl
        · exact none_of hc hkj (hg k hkl)
      refine ih (listed.setIfInBounds j true) a' g' (hI listed j inv hj hjn) hG' hg' hfree' (ready_mono hr (Ne.symm hji)) h3.1 ?_
      rw [Array.setIfInBounds_comm _ _ hji]
      exact h3.2

theorem wpAnyR_lex {D : RelD} {n gg : Nat} {Lq : Act → Left → Prop} (hC : Grows C) (hD : Stays D) (hsel : Region.noSelect ops = true) (I : Array Bool → Prop)
    (hI : ∀ listed j, I listed → j ∈ Region.ready md ops listed → j < n → I (listed.setIfInBounds j true))
    (hlt : ∀ listed i, I listed → i ∈ Region.ready md ops listed → i < n → ∀ j ∈ Region.ready md ops listed, j < n) :
    ∀ (l : List Oper) (k : Nat) (listed : Array Bool) (a : Act) (g : Left), (∀ j, j < l.length → l[j]? = ops[k + j]?) → k + l.length = n → I listed → Good C g → (∀ k, listed.getD k true = false → g k = none) →
    Region.lexHead md ops gg l.length k listed = true → wpRel P ops C D Lq l k a g →
    wpAnyR P md ops C D n (fun listed' a' g' => Region.seqB md ops gg n listed' = true ∧ Lq a' g') l.length listed a g
  | [], k, listed, a, g, _, hk, _, _, _, hB, h => by
    have : k = n := by simpa using hk
    subst this
    exact ⟨by simpa [Region.lexHead] using hB, h⟩
  | o :: l, k, listed, a, g, hl, hk, inv, hG, hg, hB, h => by
    have h0 : ops[k]? = some o := by simpa using (hl 0 (by simp)).symm
    simp only [List.length_cons, Region.lexHead, Bool.and_eq_true] at hB
    obtain ⟨⟨hr, hf⟩, hB'⟩ := hB
    have hkn : k < n := by simp only [List.length_cons] at hk; omega
    have hr' : k ∈ Region.ready md ops listed := by simpa using hr
    exact wpAnyR_first hC hD h0 (Region.noSelect_spec hsel) hkn (fun listed' a' g' hL => seqB_ready hL.1) I hI (fun listed hi' hr j hj => hlt listed k hi' hr hkn j hj) l.length listed a g inv hG hg (Region.free_spec h0 hf) hr' h.1
      (h.2.mono' fun a' g' hc h' => wpAnyR_lex hC hD hsel I hI hlt l (k + 1) _ _ _ (fun j hj => by have := hl (j + 1) (by simp; omega); simpa [Nat.add_assoc, Nat.add_comm 1 j] using this) (by simp only [List.length_cons] at hk; omega) (hI listed k inv hr' hkn) (good_of hD hG hc)
        (fun q hq => none_of hc (unlisted_set (mem_ready.1 hr').1 hq).1 (hg q (unlisted_set (mem_ready.1 hr').1 hq).2)) hB' h')

/-- It is a wpAny, from every world in which what has been left holds. -/
theorem wpAny_of_rel {D : RelD} {n gg base : Nat} {L : Array Bool → Act → Left → Prop} {Q' : Exit → Act → World → Prop} (hC : Grows C) (hD : Stays D)
    (hL : ∀ listed a g w, L listed a g → Inv C base g w → wpAny P md ops Q' gg listed a w) :
    ∀ (f : Nat) (listed : Array Bool) (a : Act) (g : Left) (w : World), (∀ i, listed.getD i true = false → g i = none) → Inv C base g w → wpAnyR P md ops C D n L f listed a g → wpAny P md ops Q' (f + gg) listed a w
  | 0, listed, a, g, w, _, inv, h => by rw [Nat.zero_add]; exact hL _ _ _ _ h inv
  | f + 1, listed, a, g, w, hg, inv, h => by
    rw [show f + 1 + gg = (f + gg) + 1 by omega]
    refine ⟨fun h0 => absurd h0 h.1, fun i hi => ?_⟩
    have h1 := (h.2 i hi).2
    have hun := (mem_ready.1 hi).1
    have hg1 : ∀ k, (listed.setIfInBounds i true).getD k true = false → k ≠ i ∧ g k = none := fun k hk => by
      by_cases hik : i = k
      · subst hik
        exfalso
        have hlt : i < listed.size := by
          rcases Nat.lt_or_ge i listed.size with h' | h'
          · exact h'
          · simp [Array.getElem?_eq_none h'] at hun
        simp [hlt] at hk
      · rw [getD_set_ne true hik] at hk
        exact ⟨fun e => hik e.symm, hg k hk⟩
    have hgu : ∀ x k, (listed.setIfInBounds i true).getD k true = false → (g.upd i x) k = none := fun x k hk => by
      unfold Left.upd; rw [if_neg (hg1 k hk).1]; exact (hg1 k hk).2
    unfold relOp at h1
    unfold wpOp
    split
    · rename_i ho
      simp only [ho] at h1
      exact wpAny_of_rel hC hD hL f _ _ _ _ (fun k hk => (hg1 k hk).2) inv h1
    · rename_i o ho
      simp only [ho] at h1
      obtain ⟨hr, hn⟩ := h1
      unfold NextR at hn
      split
      · rename_i hw
        rw [if_pos hw] at hn
        refine .inl ?_
        have h3 := hr hw w inv.cls inv.facts.known
        unfold Oper.wp
        unfold relUpon at h3
        generalize (execOp a.eval o).run P w = r at h3
        match r, h3 with
        | .ok (.value u) w', ⟨hb, hR⟩ =>
          simp only [Oper.upon]
          exact wpAny_of_rel hC hD hL f _ _ _ _ (hgu _) (inv.put hC hD hb hR) (hn u _ _ ⟨hb.size, w', hC _ _ inv.cls hb, (inv.put hC hD hb hR).facts⟩)
        | .ok .skip w', ⟨hb, hR⟩ =>
          simp only [Oper.upon]
          exact wpAny_of_rel hC hD hL f _ _ _ _ (hgu _) (inv.put hC hD hb hR) (hn undef _ _ ⟨hb.size, w', hC _ _ inv.cls hb, (inv.put hC hD hb hR).facts⟩)
        | .ok (.enter f' args) w', ⟨e, hc⟩ =>
          simp only [Oper.upon]
          rw [e]
          refine hc.mono fun e w2 ⟨u, he, hb, hR⟩ => ?_
          subst he
          exact wpAny_of_rel hC hD hL f _ _ _ _ (hgu _) (inv.put hC hD hb hR) (hn u _ _ ⟨hb.size, w2, hC _ _ inv.cls hb, (inv.put hC hD hb hR).facts⟩)
      · rename_i hw
        rw [if_neg hw] at hn
        exact wpAny_of_rel hC hD hL f _ _ _ _ (fun k hk => (hg1 k hk).2) inv hn

def Left.none : Left := fun _ => Option.none
theorem Inv.begin {w : World} (h : C w) : Inv C w.heap.size Left.none w := ⟨h, Nat.le_refl _, (fun _ _ h => by cases h), (fun _ _ h => by cases h), (fun _ _ _ _ h => by cases h)⟩

theorem Good.begin {w : World} (h : C w) : Good C Left.none := ⟨⟨w, h, fun _ _ h => by cases h⟩, fun _ _ h => by cases h⟩
/-- A REGION THAT DRAWS ITS ORDER: its first n operations go as D tells, in any order; the others, one behind the other, in theirs. -/
theorem wpAny_rel_tail {Q : Exit → Act → World → Prop} {a : Act} {w : World} {l : List Oper} (n : Nat) (D : RelD) (C : World → Prop) (hB : Region.lexTailB .any l.toArray n = true)
    (hC : Grows C) (hD : Stays D) (hc : C w.drew)
    (h : wpRel P l.toArray C D (fun a' g => ∀ w', Inv C w.heap.size g w' → wpList P l.toArray Q (l.drop n) a' w') (l.take n) 0 a Left.none) : wpAny P .any l.toArray Q l.toArray.size (Array.replicate l.toArray.size false) a { w with drawn := w.drawn + 1 } := by
  simp only [Region.lexTailB, Bool.and_eq_true, decide_eq_true_eq] at hB
  obtain ⟨⟨⟨⟨hsel, hn⟩, hs⟩, hch⟩, hlex⟩ := hB
  have hn' : n < l.length := by simpa using hn
  have htl : (l.take n).length = n := by simp; omega
  have hdl : (l.drop n).length = l.toArray.size - n := by simp
  have inv0 : HeadInv .any l.toArray n (Array.replicate l.toArray.size false) :=
    ⟨by simp, fun j oj _ hl => (by rw [getD_replicate_false] at hl; cases hl), fun t _ ht => getD_in (by simpa using ht) (getD_replicate_false _ _)⟩
  have H := wpAnyR_lex (md := .any) (P := P) (C := C) (D := D) (gg := l.toArray.size - n) (Lq := fun a' g => ∀ w', Inv C w.heap.size g w' → wpList P l.toArray Q (l.drop n) a' w') hC hD hsel (HeadInv .any l.toArray n)
    (fun listed j inv hj hjn => inv.set hj hjn)
    (fun listed i inv hr hin j hj => by
      rcases Nat.lt_or_ge j n with hlt | hge
      · exact hlt
      · exact absurd hj (tail_waits hs hch hn inv _ i rfl hin (mem_ready.1 hr).1 j hge))
    (l.take n) 0 _ a Left.none (fun j hj => by
      have hj' : j < n := by rw [htl] at hj; exact hj
      simp [hj']) (by simpa using htl) inv0 (Good.begin hc) (fun _ _ => rfl) (by rw [htl]; exact hlex) h
  have := wpAny_of_rel (Q' := Q) (base := w.heap.size) (gg := l.toArray.size - n) hC hD (fun listed a' g w' hL inv => by
    have := wpAny_of_seq (md := .any) (Q' := Q) (l.drop n) n listed a' w' (fun j => by simp [List.getElem?_drop]) (by rw [hdl]; exact hL.1) (hL.2 w' inv)
    rwa [hdl] at this) _ _ _ _ w.drew (fun _ _ => rfl) (Inv.begin (w := w.drew) hc) H
  rw [htl, show n + (l.toArray.size - n) = l.toArray.size by omega] at this
  exact this

theorem wp_region_rel_tail {id : Nat} {Q : Exit → Act → World → Prop} {a : Act} {w : World} {l : List Oper} (n : Nat) (D : RelD) (C : World → Prop) (hm : P.follows .mixedOrders = true) (hB : Region.lexTailB .any l.toArray n = true)
    (hC : Grows C) (hD : Stays D) (hc : C w.drew)
    (h : wpRel P l.toArray C D (fun a' g => ∀ w', Inv C w.heap.size g w' → wpList P l.toArray Q (l.drop n) a' w') (l.take n) 0 a Left.none) : (Code.region id l.toArray true).wp P Q a w :=
  wp_region_any hm (wpAny_rel_tail n D C hB hC hD hc h)

/-- The same where all operations go as D tells. -/
theorem wp_region_rel {id : Nat} {Q : Exit → Act → World → Prop} {a : Act} {w : World} {l : List Oper} (D : RelD) (C : World → Prop) (hm : P.follows .mixedOrders = true) (hB : Region.lexB .any l.toArray = true)
    (hC : Grows C) (hD : Stays D) (hc : C w.drew)
    (h : wpRel P l.toArray C D (fun a' g => ∀ w', Inv C w.heap.size g w' → Q .normal a' w') l 0 a Left.none) : (Code.region id l.toArray true).wp P Q a w := by
  simp only [Region.lexB, Bool.and_eq_true] at hB
  have hlex : ∀ (f k : Nat) (listed : Array Bool), Region.lexFrom .any l.toArray f k listed = true → Region.lexHead .any l.toArray 0 f k listed = true := by
    intro f
    induction f with
    | zero => intro k listed h; simpa [Region.lexHead, Region.seqB, Region.lexFrom] using h
    | succ f ih =>
      intro k listed h
      simp only [Region.lexFrom, Bool.and_eq_true] at h
      simp only [Region.lexHead, Bool.and_eq_true]
      exact ⟨h.1, ih _ _ h.2⟩
  have hsz : l.toArray.size = l.length := by simp
  have H := wpAnyR_lex (md := .any) (P := P) (C := C) (D := D) (n := l.length) (gg := 0) (Lq := fun a' g => ∀ w', Inv C w.heap.size g w' → Q .normal a' w') hC hD hB.1 (fun _ => True)
    (fun _ _ _ _ _ => trivial)
    (fun listed i _ hr hin j hj => by
      obtain ⟨_, o, ho, _⟩ := mem_ready.1 hj
      have := (Array.getElem?_eq_some_iff.1 ho).1
      simpa using this)
    l 0 _ a Left.none (fun j hj => by simp) (by simp) trivial (Good.begin hc) (fun _ _ => rfl) (hlex _ _ _ (by simpa using hB.2)) h
  refine wp_region_any hm ?_
  have := wpAny_of_rel (Q' := Q) (base := w.heap.size) (gg := 0) hC hD (fun listed a' g w' hL inv => by
    have h1 := hL.1
    simp only [Region.seqB, List.isEmpty_iff] at h1
    exact ⟨h1, hL.2 w' inv⟩) _ _ _ _ w.drew (fun _ _ => rfl) (Inv.begin (w := w.drew) hc) H
  simpa using this

/-! The steps of the walk. -/
theorem rel_nil {D : RelD} {Q : Act → Left → Prop} {k : Nat} {a : Act} {g : Left} (h : Q a g) : wpRel P ops C D Q [] k a g := h
theorem rel_step {D : RelD} {Q : Act → Left → Prop} {o : Oper} {rest : List Oper} {k : Nat} {a : Act} {g : Left} (hw : Region.wanted o (yielded ops a.tmps) = true) (h1 : GoesAs P C D k o a)
    (h2 : ∀ v lo hi, lo ≤ hi → (∃ w, C w ∧ D k (readBy o a) v lo hi w) → wpRel P ops C D Q rest (k + 1) (a.put o.dst v) (g.upd k (lo, hi, D k (readBy o a) v lo hi))) : wpRel P ops C D Q (o :: rest) k a g :=
  ⟨fun _ w hc _ => h1 w hc, by unfold NextR; rw [if_pos hw]; exact fun v lo hi hv => h2 v lo hi hv.1 (by obtain ⟨w, hc, hf⟩ := hv.2; exact ⟨w, hc, (hf k _ (Left.upd_at _ _ _)).2⟩)⟩
/-- The same, where it goes by what is known of what it reads; the facts that were left hold together. -/
theorem rel_stepF {D : RelD} {Q : Act → Left → Prop} {o : Oper} {rest : List Oper} {k : Nat} {a : Act} {g : Left} (hw : Region.wanted o (yielded ops a.tmps) = true) (h1 : GoesF P ops C D k o a g)
    (h2 : ∀ v lo hi, lo ≤ hi → (∃ w, C w ∧ D k (readBy o a) v lo hi w) → wpRel P ops C D Q rest (k + 1) (a.put o.dst v) (g.upd k (lo, hi, D k (readBy o a) v lo hi))) : wpRel P ops C D Q (o :: rest) k a g :=
  ⟨fun _ => h1, by unfold NextR; rw [if_pos hw]; exact fun v lo hi hv => h2 v lo hi hv.1 (by obtain ⟨w, hc, hf⟩ := hv.2; exact ⟨w, hc, (hf k _ (Left.upd_at _ _ _)).2⟩)⟩
theorem rel_skip {D : RelD} {Q : Act → Left → Prop} {o : Oper} {rest : List Oper} {k : Nat} {a : Act} {g : Left} (hw : Region.wanted o (yielded ops a.tmps) = false)
    (h2 : wpRel P ops C D Q rest (k + 1) (a.put o.dst undef) g) : wpRel P ops C D Q (o :: rest) k a g :=
  ⟨(fun h => by rw [hw] at h; cases h), by unfold NextR; rw [if_neg (by rw [hw]; exact Bool.false_ne_true)]; exact h2⟩
/-- An operation that yields a value and leaves the world as it was. -/
theorem goes_value {D : RelD} {o : Oper} {k : Nat} {a : Act} (v : Value) (hr : ∀ w, C w → (execOp a.eval o).run P w = .ok (.value v) w) (hD : ∀ w, C w → D k (readBy o a) v w.heap.size w.heap.size w) : GoesAs P C D k o a := fun w hw => by
  rw [hr w hw]; exact ⟨Below.refl _ _, hD w hw⟩
/-- A call by its contract. -/
theorem goes_call {D : RelD} {o : Oper} {k : Nat} {a : Act} (f : FuncId) (args : Array Value) (hr : ∀ w, C w → (execOp a.eval o).run P w = .ok (.enter f args) w)
    (hc : ∀ w, C w → Calls P f args w (fun e w'' => ∃ u, e = .returned u ∧ Below w.heap.size w w'' ∧ D k (readBy o a) u w.heap.size w''.heap.size w'')) : GoesAs P C D k o a := fun w hw => by
  rw [hr w hw]; exact ⟨rfl, hc w hw⟩
/-- A new block. -/
theorem goes_alloc {D : RelD} {o : Oper} {k : Nat} {a : Act} (cs : Array Value) (t : TypeId) (hr : ∀ w, C w → (execOp a.eval o).run P w = .ok (.value (.pointer (some ⟨w.heap.size, 0, none⟩))) (w.alloc (.cells cs t)))
    (hD : ∀ w, C w → D k (readBy o a) (.pointer (some ⟨w.heap.size, 0, none⟩)) w.heap.size (w.heap.size + 1) (w.alloc (.cells cs t))) : GoesAs P C D k o a := fun w hw => by
  rw [hr w hw]; exact ⟨(Below.refl _ _).alloc (Nat.le_refl _) _, by rw [World.size_alloc]; exact hD w hw⟩
end
end
section
open Go Go.RowKit

abbrev OpD := Array Value → Value → Nat → Nat → World → Prop
def DL (l : List OpD) : RelD := fun i vs v lo hi w => match l[i]? with | some d => d vs v lo hi w | none => False
def StayD (d : OpD) : Prop := ∀ vs v lo hi w w', d vs v lo hi w → hi ≤ w.heap.size → Below w.heap.size w w' → d vs v lo hi w'
theorem stays_DL {l : List OpD} (h : ∀ d ∈ l, StayD d) : Stays (DL l) := fun i vs v lo hi w w' hd hhi hb => by
  unfold DL at hd ⊢
  cases hi' : l[i]? with
  | none => rw [hi'] at hd; exact hd
  | some d => rw [hi'] at hd; exact h d (List.mem_of_getElem? hi') vs v lo hi w w' hd hhi hb
/-- It yields this value. -/
def dV (v0 : Value) : OpD := fun _ v _ _ _ => v = v0
theorem stay_V {v0 : Value} : StayD (dV v0) := fun _ _ _ _ _ _ h _ _ => h
/-- It yields the address of a new block of these cells. -/
def dB (cs : Array Value) (t : TypeId) : OpD := fun _ v lo hi w => v = .pointer (some ⟨lo, 0, none⟩) ∧ hi = lo + 1 ∧ Blk w lo cs t
theorem stay_B {cs : Array Value} {t : TypeId} : StayD (dB cs t) := fun _ _ _ _ _ _ h _ hb => ⟨h.1, h.2.1, h.2.2.later hb⟩
/-- It yields a value of which this holds, then and later. -/
def dP (p : Value → Nat → Nat → World → Prop) : OpD := fun _ v lo hi w => p v lo hi w ∧ ∀ w', Below w.heap.size w w' → p v lo hi w'
theorem stay_P {p : Value → Nat → Nat → World → Prop} : StayD (dP p) := fun _ _ _ _ _ _ h _ hb => ⟨h.2 _ hb, fun w' hb' => h.2 w' (hb.trans (hb'.mono hb.size))⟩
theorem grows_mem {w0 : World} {L : List Ent} : Grows (fun w' => Mem w0 w' L) := fun _ _ h hb => h.call hb

/-- A call by name. -/
theorem run_callOp {P : Program} {o : Oper} {a : Act} {f : FuncId} {xs : Array Operand} {tys : Array TypeId} (ho : o.op = .call { callee := .value (.func f), args := xs, argTypes := tys }) (vs : Array Value) (hvs : xs.toList.map a.eval = vs.toList)
    (he : ∀ (args : Array Value) (w : World), (callFunc f args).run P w = .ok (.enter f args) w) (w : World) : (execOp a.eval o).run P w = .ok (.enter f vs) w := by
  obtain rfl : xs.map a.eval = vs := Array.ext' (by rw [Array.toList_map]; exact hvs)
  unfold execOp
  simp only [ho, resolve]
  simp [go_sem, invoke, he]
theorem grows_memB {w0 W : World} {L : List Ent} : Grows (fun w' => Mem w0 w' L ∧ Below W.heap.size W w') := fun _ _ h hb => ⟨h.1.call hb, h.2.trans (hb.mono h.2.size)⟩
section
variable {P : Program} {ops : Array Oper} {C : World → Prop} {l : List OpD} {Q : Act → Left → Prop} {o : Oper} {rest : List Oper} {k : Nat} {a : Act} {g : Left}
theorem DL_at {d : OpD} (hl : l[k]? = some d) (vs : Array Value) (v : Value) (lo hi : Nat) (w : World) : DL l k vs v lo hi w = d vs v lo hi w := by unfold DL; rw [hl]
theorem rel_val (v0 : Value) (hl : l[k]? = some (dV v0)) (hw : Region.wanted o (yielded ops a.tmps) = true) (h1 : ∀ w, C w → (execOp a.eval o).run P w = .ok (.value v0) w)
    (h2 : ∀ x, wpRel P ops C (DL l) Q rest (k + 1) (a.put o.dst v0) (g.upd k x)) : wpRel P ops C (DL l) Q (o :: rest) k a g :=
  rel_step hw (goes_value v0 h1 (fun w _ => by rw [DL_at hl]; rfl)) (fun v lo hi _ ⟨w, _, h⟩ => by rw [DL_at hl] at h; cases h; exact h2 _)
/-- A row that is read. -/
theorem rel_load (ty : TypeId) (x : Operand) (ho : o.op = .load ty x) (b off : Nat) (hx : a.eval x = .pointer (some ⟨b, off, none⟩)) (vs : Array Value) (d : TypeDesc) (hl : l[k]? = some (dV (.agg vs))) (hw : Region.wanted o (yielded ops a.tmps) = true)
    (hc : ∀ w, C w → w.rangeAt b off vs.toList) (hu : P.underlying ty = some d) (hd : d.isRow = true) (hi : (P.info? ty).map (·.size) = some vs.size)
    (h2 : ∀ x, wpRel P ops C (DL l) Q rest (k + 1) (a.put o.dst (.agg vs)) (g.upd k x)) : wpRel P ops C (DL l) Q (o :: rest) k a g :=
  rel_val _ hl hw (fun w hw' => by
    unfold execOp
    simp only [ho, hx, Sem.run_bind, run_loadAt_part w b off ty vs d (hc w hw') hu hd hi, Result.andThen_ok, Sem.run_pure]) h2
/-- A call of a Go function, by its contract. -/
theorem rel_call (v0 : Value) (f : FuncId) (args : Array Value) (hl : l[k]? = some (dV v0)) (hw : Region.wanted o (yielded ops a.tmps) = true) {xs : Array Operand} {tys : Array TypeId} (ho : o.op = .call { callee := .value (.func f), args := xs, argTypes := tys }) (hvs : xs.toList.map a.eval = args.toList) (he : ∀ (args : Array Value) (w : World), (callFunc f args).run P w = .ok (.enter f args) w)
    (hc : ∀ w, C w → Calls P f args w (fun e w' => e = .returned v0 ∧ Below w.heap.size w w'))
    (h2 : ∀ x, wpRel P ops C (DL l) Q rest (k + 1) (a.put o.dst v0) (g.upd k x)) : wpRel P ops C (DL l) Q (o :: rest) k a g :=
  rel_step hw (goes_call f args (fun w _ => run_callOp ho args hvs he w) (fun w hw' => (hc w hw').mono (fun e w' h => ⟨v0, h.1, h.2, by rw [DL_at hl]; rfl⟩))) (fun v lo hi _ ⟨w, _, h⟩ => by rw [DL_at hl] at h; cases h; exact h2 _)
/-- A call whose answer is told by what holds of it. -/
theorem rel_callP (p : Value → Nat → Nat → World → Prop) (f : FuncId) (args : Array Value) (hl : l[k]? = some (dP p)) (hw : Region.wanted o (yielded ops a.tmps) = true) {xs : Array Operand} {tys : Array TypeId} (ho : o.op = .call { callee := .value (.func f), args := xs, argTypes := tys }) (hvs : xs.toList.map a.eval = args.toList) (he : ∀ (args : Array Value) (w : World), (callFunc f args).run P w = .ok (.enter f args) w)
    (hc : ∀ w, C w → Calls P f args w (fun e w' => ∃ v, e = .returned v ∧ Below w.heap.size w w' ∧ ∀ w'', Below w'.heap.size w' w'' → p v w.heap.size w'.heap.size w''))
    (h2 : ∀ v lo hi, lo ≤ hi → (∃ w, C w ∧ p v lo hi w) → wpRel P ops C (DL l) Q rest (k + 1) (a.put o.dst v) (g.upd k (lo, hi, dP p (readBy o a) v lo hi))) : wpRel P ops C (DL l) Q (o :: rest) k a g :=
  rel_step hw (goes_call f args (fun w _ => run_callOp ho args hvs he w) (fun w hw' => (hc w hw').mono (fun e w' h => by
    obtain ⟨v, he, hb, hp⟩ := h
    exact ⟨v, he, hb, by rw [DL_at hl]; exact ⟨hp w' (Below.refl _ _), hp⟩⟩))) (fun v lo hi hle ⟨w, hw', h⟩ => by
    have e : DL l k (readBy o a) v lo hi = dP p (readBy o a) v lo hi := by funext w; exact DL_at hl _ _ _ _ _
    rw [e]
    rw [DL_at hl] at h
    exact h2 v lo hi hle ⟨w, hw', h.1⟩)
/-- A new block. -/
theorem rel_alloc (cs : Array Value) (t : TypeId) (hl : l[k]? = some (dB cs t)) (hw : Region.wanted o (yielded ops a.tmps) = true) (hr : ∀ w, (execOp a.eval o).run P w = .ok (.value (.pointer (some ⟨w.heap.size, 0, none⟩))) (w.alloc (.cells cs t)))
    (h2 : ∀ n, wpRel P ops C (DL l) Q rest (k + 1) (a.put o.dst (.pointer (some ⟨n, 0, none⟩))) (g.upd k (n, n + 1, fun w => Blk w n cs t))) : wpRel P ops C (DL l) Q (o :: rest) k a g :=
  rel_step hw (goes_alloc cs t (fun w _ => hr w) (fun w _ => by rw [DL_at hl]; exact ⟨rfl, rfl, Blk.new _ _ _⟩)) (fun v lo hi _ ⟨w, _, h⟩ => by
    rw [DL_at hl] at h
    obtain ⟨rfl, rfl, _⟩ := h
    have e : DL l k (readBy o a) (.pointer (some ⟨lo, 0, none⟩)) lo (lo + 1) = fun w => Blk w lo cs t := by
      funext w
      rw [DL_at hl]
      exact propext ⟨fun h => h.2.2, fun h => ⟨rfl, rfl, h⟩⟩
    rw [e]
    exact h2 lo)
/-- Two rows compared. -/
theorem rel_eql (t t' : TypeId) (x y : Operand) (ho : o.op = .binOp .eql t x y t') (xs ys : Array Value) (hx : a.eval x = .agg xs) (hy : a.eval y = .agg ys) (r : Bool) (hl : l[k]? = some (dV (.bool r))) (hw : Region.wanted o (yielded ops a.tmps) = true)
    (hm : P.eqGuardType P.depth t = false) (hr : ∀ w, (Op.equalIn 10000 t (.agg xs) (.agg ys)).run P w = .ok r w)
    (h2 : ∀ x, wpRel P ops C (DL l) Q rest (k + 1) (a.put o.dst (.bool r)) (g.upd k x)) : wpRel P ops C (DL l) Q (o :: rest) k a g :=
  rel_val _ hl hw (fun w _ => by
    unfold execOp
    simp only [ho, hx, hy]
    rw [Sem.run_bind, run_eql_agg t xs ys r w x y hm (hr w), Result.andThen_ok, Sem.run_pure]) h2
/-- A new block, in the end. -/
theorem Inv.blk {base n : Nat} {g : Left} {w : World} {i : Nat} {cs : Array Value} {t : TypeId} (h : Inv C base g w) (hi : g i = some (n, n + 1, fun w => Blk w n cs t)) : base ≤ n ∧ Blk w n cs t := ⟨(h.fact i _ hi).1, (h.fact i _ hi).2.2.2⟩
end
/-- A block that is none of the list's. -/
theorem Mem.addNew {w0 w : World} {L : List Ent} {n : Nat} {cs : Array Value} {t : TypeId} (H : Mem w0 w L) (hn : w0.heap.size ≤ n) (hne : ∀ (i : Nat) (e : Ent), L[i]? = some e → e.b ≠ n) (hb : Blk w n cs t) : Mem w0 w (L ++ [⟨n, cs, t⟩]) := by
  have key : ∀ i e, (L ++ [⟨n, cs, t⟩])[i]? = some e → (i < L.length ∧ L[i]? = some e) ∨ (i = L.length ∧ e = ⟨n, cs, t⟩) := fun i e h => by
    rw [List.getElem?_append] at h
    split at h
    · exact .inl ⟨by assumption, h⟩
    · rcases hk : i - L.length with _ | k
      · rw [hk] at h; exact .inr ⟨by omega, by simpa using h.symm⟩
      · rw [hk] at h; simp at h
  refine ⟨H.below, fun i e h => ?_, fun i j e e' h h' hij => ?_⟩
  · rcases key i e h with ⟨_, h1⟩ | ⟨_, rfl⟩
    · exact H.blk i e h1
    · exact ⟨hn, hb⟩
  · rcases key i e h with ⟨hi, h1⟩ | ⟨hi, rfl⟩ <;> rcases key j e' h' with ⟨hj, h2⟩ | ⟨hj, rfl⟩
    · exact H.apart i j e e' h1 h2 hij
    · exact hne i e h1
    · exact fun x => hne j e' h2 x.symm
    · omega
/-- The lists' blocks lie before the region's base. -/
theorem Mem.before {w0 w : World} {L : List Ent} (H : Mem w0 w L) : ∀ (i : Nat) (e : Ent), L[i]? = some e → e.b < w.heap.size := fun i e h => (H.blk i e h).2.lt
theorem Inv.mem1 {w0 W w : World} {L : List Ent} {g : Left} {i n : Nat} {cs : Array Value} {t : TypeId} {C : World → Prop} (H : Mem w0 W L) (h : Inv C W.heap.size g w) (hM : Mem w0 w L) (hi : g i = some (n, n + 1, fun w => Blk w n cs t)) : Mem w0 w (L ++ [⟨n, cs, t⟩]) :=
  hM.addNew (Nat.le_trans H.below.size (h.blk hi).1) (fun j e hj => by have := H.before j e hj; have := (h.blk hi).1; omega) (h.blk hi).2
theorem Inv.mem2 {w0 W w : World} {L : List Ent} {g : Left} {i j n m : Nat} {cs ds : Array Value} {t u : TypeId} {C : World → Prop} (H : Mem w0 W L) (h : Inv C W.heap.size g w) (hM : Mem w0 w L) (hi : g i = some (n, n + 1, fun w => Blk w n cs t)) (hj : g j = some (m, m + 1, fun w => Blk w m ds u)) (hij : i ≠ j) : Mem w0 w (L ++ [⟨n, cs, t⟩] ++ [⟨m, ds, u⟩]) := by
  refine (h.mem1 H hM hi).addNew (Nat.le_trans H.below.size (h.blk hj).1) (fun k e hk => ?_) (h.blk hj).2
  rw [List.getElem?_append] at hk
  split at hk
  · have := H.before k e hk; have := (h.blk hj).1; omega
  · rcases hl : k - L.length with _ | q
    · rw [hl] at hk
      have : e = ⟨n, cs, t⟩ := by simpa using hk.symm
      subst this
      have := h.apart i j _ _ hi hj hij
      simp only [] at this ⊢
      omega
    · rw [hl] at hk; simp at hk
end
section
open Go Go.RowKit

section
variable {P : Program} {ops : Array Oper} {C : World → Prop} {l : List OpD} {Q : Act → Left → Prop} {o : Oper} {rest : List Oper} {k : Nat} {a : Act} {g : Left}
/-- The address of an element. -/
theorem rel_index (t e : TypeId) (x ix : Operand) (ho : o.op = .indexAddr t x ix) (b off n c sz i : Nat) (hx : a.eval x = .slice (some ⟨b, off, none⟩) n c) (hix : a.eval ix = .int .i64 i) (hi : i < n) (hu : P.underlying t = some (.slice e)) (hsz : (P.info? e).map (·.size) = some sz)
    (hl : l[k]? = some (dV (.pointer (some ⟨b, off + i * sz, none⟩)))) (hw : Region.wanted o (yielded ops a.tmps) = true)
    (h2 : ∀ x, wpRel P ops C (DL l) Q rest (k + 1) (a.put o.dst (.pointer (some ⟨b, off + i * sz, none⟩))) (g.upd k x)) : wpRel P ops C (DL l) Q (o :: rest) k a g :=
  rel_val _ hl hw (fun w _ => by
    have he : P.elem t = e := by simp [Program.elem, hu]
    cases hie : P.info? e with
    | none => simp [hie] at hsz
    | some ie =>
      simp only [hie, Option.map_some, Option.some.injEq] at hsz
      have hr : (Instr.indexAt t (.slice (some ⟨b, off, none⟩) n c) (.int .i64 (i : Int))).run P w = .ok (.pointer (some ⟨b, off + i * sz, none⟩)) w := by
        rw [run_indexAt_slice _ _ _ _ _ _ _ (by rw [he]; exact hu), if_pos ⟨by omega, by omega⟩, he]
        simp [sizeOf, typeInfo, hie, hsz, Addr.add]
      unfold execOp
      simp only [ho, hx, hix, Sem.run_bind, hr, Result.andThen_ok, Sem.run_pure]) h2
/-- Two structs compared, for being other. -/
theorem rel_neq (t t' : TypeId) (x y : Operand) (ho : o.op = .binOp .neq t x y t') (xs ys : Array Value) (hx : a.eval x = .agg xs) (hy : a.eval y = .agg ys) (r : Bool) (hl : l[k]? = some (dV (.bool (!r)))) (hw : Region.wanted o (yielded ops a.tmps) = true)
    (hm : P.eqGuardType P.depth t = false) (hr : ∀ w, (Op.equalIn 10000 t (.agg xs) (.agg ys)).run P w = .ok r w)
    (h2 : ∀ x, wpRel P ops C (DL l) Q rest (k + 1) (a.put o.dst (.bool (!r))) (g.upd k x)) : wpRel P ops C (DL l) Q (o :: rest) k a g :=
  rel_val _ hl hw (fun w _ => by
    unfold execOp
    simp only [ho, hx, hy, Sem.run_bind, run_eqGuard_agg w .neq t x y xs ys hm, Result.andThen_ok, run_neq_struct w t xs ys, hr w, Sem.run_pure]) h2
end

/-- Two elements are equal, as a Bool. -/
def seq (s : Nat) (f g : Nat → Int) : Bool := allTo s (fun j => f j == g j)
theorem seq_iff {ks : List IntKind} {F G : Nat → Nat → Int} {i m : Nat} : seq ks.length (F i) (G m) = true ↔ srow ks F i = srow ks G m := by
  simp only [seq, allTo_iff, beq_iff_eq]
  constructor
  · intro h
    unfold srow
    congr 1
    refine List.map_congr_left (fun j hj => ?_)
    unfold sget; rw [h j (List.mem_range.1 hj)]
  · intro h j hj
    have := congrArg (fun a => a[j]?) h
    simp only [srow_get ks F i j hj, srow_get ks G m j hj] at this
    have h2 := Option.some.inj this
    unfold sget at h2
    injection h2
/-- A struct of integer fields, one cell each. -/
def plainFields (P : Program) (fs : Array Field) (ks : List IntKind) : Bool :=
  (List.range ks.length).all (fun j => match fs[j]? with | some f => (f.offset == j) && (f.name != "_") && (match P.underlying f.type with | some (.int q) => q == ks.getD j .i64 | _ => false) && (P.cellsOf f.type == 1) | none => false) && fs.size == ks.length
theorem keyLits_str {P : Program} {t : TypeId} {fs : Array Field} {ks : List IntKind} (F : Nat → Nat → Int) (i : Nat) (hu : P.underlying t = some (.struct fs)) (hp : plainFields P fs ks = true) (hct : P.cellsOf t = ks.length)
    (hwf : ∀ j, j < ks.length → (Lit.int (ks.getD j .i64) (F i j)).wf = true) (d : Nat) : P.keyLits (d + 2) t (srow ks F i).toList = some ((List.range ks.length).map fun j => Lit.int (ks.getD j .i64) (F i j)) := by
  simp only [plainFields, Bool.and_eq_true, beq_iff_eq, List.all_eq_true, List.mem_range] at hp
  obtain ⟨hp, hsz⟩ := hp
  have hf : ∀ j, (hj : j < ks.length) → ∃ f q, fs[j]? = some f ∧ f.offset = j ∧ f.name ≠ "_" ∧ P.underlying f.type = some (.int q) ∧ q = ks.getD j .i64 ∧ P.cellsOf f.type = 1 := fun j hj => by
    have h := hp j hj
    cases hfj : fs[j]? with
    | none => simp [hfj] at h
    | some f =>
      simp only [hfj, Bool.and_eq_true, beq_iff_eq, bne_iff_ne] at h
      cases hq : P.underlying f.type with
      | none => simp [hq] at h
      | some dd =>
        cases dd with
        | int q => simp only [hq] at h; exact ⟨f, q, rfl, h.1.1.1, h.1.1.2, hq, by simpa using h.1.2, h.2⟩
        | _ => simp [hq] at h
  have hall : fs.all (·.name != "_") = true := by
    rw [Array.all_eq_true]
    intro j hj
    obtain ⟨f, q, h1, _, h3, _⟩ := hf j (by omega)
    rw [Array.getElem?_eq_getElem hj] at h1
    have := Option.some.inj h1
    rw [this]; simpa using h3
  have hm : (fs.toList.mapM fun f => P.keyLits (d + 1) f.type (((srow ks F i).toList.drop f.offset).take (P.cellsOf f.type))) = some ((List.range ks.length).map fun j => [Lit.int (ks.getD j .i64) (F i j)]) := by
    have e : fs.toList = (List.range ks.length).map (fun j => (fs[j]?).getD default) := by
      apply List.ext_getElem?
      intro j
      by_cases hj : j < ks.length
      · obtain ⟨f, q, h1, _⟩ := hf j hj
        rw [Array.getElem?_toList, h1]; simp [hj, h1]
      · rw [List.getElem?_eq_none (by simp; omega), List.getElem?_eq_none (by simp; omega)]
    rw [e]
    have key : ∀ (l : List Nat), (∀ j ∈ l, j < ks.length) → ((l.map (fun j => (fs[j]?).getD default)).mapM fun f => P.keyLits (d + 1) f.type (((srow ks F i).toList.drop f.offset).take (P.cellsOf f.type))) = some (l.map fun j => [Lit.int (ks.getD j .i64) (F i j)]) := by
      intro l
      induction l with
      | nil => intro _; rfl
      | cons j l ih =>
        intro hl
        have hj := hl j (List.mem_cons_self ..)
        obtain ⟨f, q, h1, h2, h3, h4, h5, h6⟩ := hf j hj
        have hd : ((srow ks F i).toList.drop f.offset).take (P.cellsOf f.type) = [sget ks F i j] := by
          rw [h2, h6]
          have := srow_get ks F i j hj
          rw [← Array.getElem?_toList] at this
          obtain ⟨hlt, he⟩ := List.getElem?_eq_some_iff.1 this
          rw [List.drop_eq_getElem_cons hlt, he]; rfl
        rw [List.map_cons, List.mapM_cons, h1, Option.getD_some, hd]
        have hk : P.keyLits (d + 1) f.type [sget ks F i j] = some [Lit.int (ks.getD j .i64) (F i j)] := by
          unfold sget Program.keyLits
          subst h5
          simp only [h4]
          rw [if_pos ⟨trivial, hwf j hj⟩]
        rw [hk, ih (fun x hx => hl x (List.mem_cons_of_mem _ hx))]
        rfl
    exact key _ (fun j hj => List.mem_range.1 hj)
  unfold Program.keyLits
  simp only [hu]
  rw [if_pos ⟨by rw [hct, Array.length_toList, srow_size], hall⟩, hm]
  simp only [Option.map_some, Option.some.injEq]
  induction List.range ks.length with
  | nil => rfl
  | cons x l ih => rw [List.map_cons, List.flatten_cons, ih]; rfl
theorem run_equalIn_str {P : Program} {t : TypeId} {fs : Array Field} {ks : List IntKind} {m : Nat} (F G : Nat → Nat → Int) (i p : Nat) (hu : P.underlying t = some (.struct fs)) (hp : plainFields P fs ks = true) (hct : P.cellsOf t = ks.length) (hk : P.keyTypeAt m t = true) (hm : m ≤ 10000)
    (hF : ∀ j, j < ks.length → (Lit.int (ks.getD j .i64) (F i j)).wf = true) (hG : ∀ j, j < ks.length → (Lit.int (ks.getD j .i64) (G p j)).wf = true) (w : World) :
    (Op.equalIn 10000 t (.agg (srow ks F i)) (.agg (srow ks G p))).run P w = .ok (seq ks.length (F i) (G p)) w := by
  have fm : ∀ F i, (Value.agg (srow ks F i)).formed P t = true := fun F i => by simp only [Value.formed, hu, srow_size, hct, beq_self_eq_true]
  obtain ⟨r, hr, hiff⟩ := run_equalIn_deep (10000 - m) m t hk w _ _ (.agg (srow ks F i)) (.agg (srow ks G p)) _ _ (fm F i) (fm G p) (keyLits_str F i hu hp hct hF 0) (keyLits_str G p hu hp hct hG 0)
  rw [show 10000 - m + m = 10000 by omega] at hr
  have e : r = seq ks.length (F i) (G p) := by
    rw [Bool.eq_iff_iff, hiff, seq_iff]
    constructor
    · intro h
      have h2 : (List.range ks.length).map (fun j => sget ks F i j) = (List.range ks.length).map (fun j => sget ks G p j) := by
        have := congrArg (List.map Lit.toCell) h
        simpa [List.map_map, Function.comp_def, Lit.toCell, sget] using this
      unfold srow; rw [h2]
    · intro h
      have := seq_iff.2 h
      simp only [seq, allTo_iff, beq_iff_eq] at this
      exact List.map_congr_left (fun j hj => by rw [this j (List.mem_range.1 hj)])
  subst e
  exact hr
end
section
section
open Go Go.RowKit

section
variable {P : Program} {ops : Array Oper} {md : Region.Mode} {Q : Exit → Act → World → Prop}

/-- The operation i waits for j, too. -/
def withEdge (o : Oper) (j : Nat) : Oper := { o with after := o.after.push ⟨j, .phase⟩ }
def addEdge (l : List Oper) (e : Nat × Nat) : List Oper := match l[e.1]? with | some o => l.set e.1 (withEdge o e.2) | none => l
/-- May the edge (i, j) be laid? -/
def edgeB (md : Region.Mode) (ops : Array Oper) (i j : Nat) : Bool :=
  match ops[i]?, ops[j]? with
  | some oi, some oj => i != j && Region.noSelect ops && (match oj.op with | .extract _ _ => true | _ => false) && oj.guard.isNone &&
      oj.after.all (fun e => !Region.binds md e || oi.after.any fun e' => Region.binds md e' && e'.on == e.on) &&
      (List.range ops.size).all fun k => k == j || match ops[k]? with
        | some ok => ok.after.any (fun e => Region.binds md e && e.on == j) || oj.after.any (fun e => Region.binds md e && e.on == k) || oj.apart ops ok
        | none => true
  | _, _ => false

structure EdgeOk (md : Region.Mode) (ops : Array Oper) (i j : Nat) (oi oj : Oper) : Prop where
  hi : ops[i]? = some oi
  hj : ops[j]? = some oj
  ne : i ≠ j
  sel : Region.noSelect ops = true
  ext : ∃ x n, oj.op = .extract x n
  free : oj.guard = none
  deps : ∀ e ∈ oj.after, Region.binds md e = true → ∃ e' ∈ oi.after, Region.binds md e' = true ∧ e'.on = e.on
  apart : ∀ k ok, ops[k]? = some ok → k ≠ j → (∀ e ∈ ok.after, Region.binds md e = true → e.on ≠ j) → (∀ e ∈ oj.after, Region.binds md e = true → e.on ≠ k) → oj.apart ops ok = true

theorem edge_ok {i j : Nat} (h : edgeB md ops i j = true) : ∃ oi oj, EdgeOk md ops i j oi oj := by
  unfold edgeB at h
  split at h
  · rename_i oi oj hi hj
    simp only [Bool.and_eq_true] at h
    obtain ⟨⟨⟨⟨⟨h1, h2⟩, h3⟩, h4⟩, h5⟩, h6⟩ := h
    refine ⟨oi, oj, hi, hj, by simpa using h1, h2, ?_, by simpa using h4, ?_, ?_⟩
    · cases ho : oj.op with
      | extract x n => exact ⟨x, n, rfl⟩
      | _ => rw [ho] at h3; cases h3
    · intro e he hb
      rw [Array.all_eq_true_iff_forall_mem] at h5
      have := h5 e he
      simp only [hb, Bool.not_true, Bool.false_or, Array.any_eq_true'] at this
      obtain ⟨e', he', h'⟩ := this
      simp only [Bool.and_eq_true, beq_iff_eq] at h'
      exact ⟨e', he', h'.1, h'.2⟩
    · intro k ok hk hkj hno1 hno2
      have hlt := (Array.getElem?_eq_some_iff.1 hk).1
      have := List.all_eq_true.1 h6 k (List.mem_range.2 hlt)
      simp only [hk, Bool.or_eq_true, beq_iff_eq, hkj, false_or] at this
      rcases this with (h' | h') | h'
      · obtain ⟨e, he, hb⟩ := Array.any_eq_true'.1 h'
        simp only [Bool.and_eq_true, beq_iff_eq] at hb
        exact absurd hb.2 (hno1 e he hb.1)
      · obtain ⟨e, he, hb⟩ := Array.any_eq_true'.1 h'
        simp only [Bool.and_eq_true, beq_iff_eq] at hb
        exact absurd hb.2 (hno2 e he hb.1)
      · exact h'
  · cases h

variable {i j : Nat} {oi oj : Oper}
theorem get_edge (hi : ops[i]? = some oi) (k : Nat) : (ops.setIfInBounds i (withEdge oi j))[k]? = if k = i then some (withEdge oi j) else ops[k]? := by
  have hlt := (Array.getElem?_eq_some_iff.1 hi).1
  rw [Array.getElem?_setIfInBounds]
  by_cases hk : k = i
  · subst hk; rw [if_pos rfl, if_pos rfl, if_pos hlt]
  · rw [if_neg (fun e => hk e.symm), if_neg hk]
theorem yielded_edge (hi : ops[i]? = some oi) (tmps : Array Value) : yielded (ops.setIfInBounds i (withEdge oi j)) tmps = yielded ops tmps := by
  funext k
  unfold yielded
  rw [get_edge hi]
  by_cases hk : k = i
  · subst hk; rw [if_pos rfl, hi]; rfl
  · rw [if_neg hk]
theorem wpOp_edge (hi : ops[i]? = some oi) (k : Nat) (K : Act → World → Prop) (a : Act) (w : World) : wpOp P (ops.setIfInBounds i (withEdge oi j)) Q k K a w ↔ wpOp P ops Q k K a w := by
  unfold wpOp
  rw [yielded_edge hi, get_edge hi]
  by_cases hk : k = i
  · subst hk; rw [if_pos rfl, hi]; exact Iff.rfl
  · rw [if_neg hk]
theorem ready_less (hi : ops[i]? = some oi) {k : Nat} {listed : Array Bool} (h : k ∈ Region.ready md (ops.setIfInBounds i (withEdge oi j)) listed) : k ∈ Region.ready md ops listed := by
  rw [mem_ready] at *
  obtain ⟨h0, o, ho, hall⟩ := h
  rw [get_edge hi] at ho
  by_cases hk : k = i
  · subst hk; rw [if_pos rfl] at ho; cases ho
    exact ⟨h0, oi, hi, fun e he hb => hall e (Array.mem_push.2 (.inl he)) hb⟩
  · rw [if_neg hk] at ho; exact ⟨h0, o, ho, hall⟩
theorem ready_more (H : EdgeOk md ops i j oi oj) {k : Nat} {listed : Array Bool} (hs : listed.size = ops.size) (h : k ∈ Region.ready md ops listed) :
    k ∈ Region.ready md (ops.setIfInBounds i (withEdge oi j)) listed ∨ (k = i ∧ listed.getD j true = false ∧ j ∈ Region.ready md ops listed ∧ j ∈ Region.ready md (ops.setIfInBounds i (withEdge oi j)) listed) := by
  have hk0 := h
  rw [mem_ready] at h
  obtain ⟨h0, o, ho, hall⟩ := h
  by_cases hk : k = i
  · subst hk
    rw [H.hi] at ho; cases ho
    have hlt : j < listed.size := by rw [hs]; exact (Array.getElem?_eq_some_iff.1 H.hj).1
    by_cases hl : listed.getD j false = true
    · left
      rw [mem_ready]
      refine ⟨h0, withEdge oi j, by rw [get_edge H.hi, if_pos rfl], fun e he hb => ?_⟩
      rcases Array.mem_push.1 he with he | rfl
      · exact hall e he hb
      · exact hl
    · right
      have hun : listed.getD j true = false := by
        simp only [Array.getD_eq_getD_getElem?, Array.getElem?_eq_getElem hlt, Option.getD_some] at hl ⊢
        simpa using hl
      have hjr : ∀ e ∈ oj.after, Region.binds md e = true → listed.getD e.on false = true := fun e he hb => by
        obtain ⟨e', he', hb', heq⟩ := H.deps e he hb
        rw [← heq]; exact hall e' he' hb'
      refine ⟨rfl, hun, mem_ready.2 ⟨hun, oj, H.hj, hjr⟩, mem_ready.2 ⟨hun, oj, by rw [get_edge H.hi, if_neg (fun e => H.ne e.symm)]; exact H.hj, hjr⟩⟩
  · left
    rw [mem_ready]
    exact ⟨h0, o, by rw [get_edge H.hi, if_neg hk]; exact ho, hall⟩
theorem extract_yields (H : EdgeOk md ops i j oi oj) {K : Act → World → Prop} {a : Act} {w : World} (h : wpOp P ops Q j K a w) : ∃ v, Yields P ops oj v a ∧ K (a.put oj.dst v) w := by
  obtain ⟨x, n, ho⟩ := H.ext
  have hw : Region.wanted oj (yielded ops a.tmps) = true := by simp [Region.wanted, H.free]
  unfold wpOp at h
  simp only [H.hj, hw, if_true] at h
  have hna : ¬ oj.asks P a w := by
    unfold Oper.asks execOp
    simp only [ho]
    intro hc
    have hc := hc.1
    cases hx : a.eval x with
    | tuple vs =>
      cases hv : vs[n]? with
      | some v => rw [hx] at hc; simp only [Instr.extract, hv] at hc; change noRoomEvent ∈ (#[] : Array Event) at hc; simp at hc
      | none => rw [hx] at hc; simp only [Instr.extract, hv] at hc; change noRoomEvent ∈ (#[] : Array Event) at hc; simp at hc
    | _ => rw [hx] at hc; simp only [Instr.extract] at hc; change noRoomEvent ∈ (#[] : Array Event) at hc; simp at hc
  rcases h with h | ⟨h, _⟩
  · unfold Oper.wp at h
    cases hx : a.eval x with
    | tuple vs =>
      cases hv : vs[n]? with
      | some v =>
        have hr : ∀ w, (execOp a.eval oj).run P w = .ok (.value v) w := fun w => by
          unfold execOp
          simp only [ho, hx, Instr.extract, hv]
          rfl
        rw [hr] at h
        exact ⟨v, .inl ⟨hw, hr⟩, h⟩
      | none =>
        exfalso
        have hr : (execOp a.eval oj).run P w = (stuck "Extract: no such component" : Sem Next).run P w := by
          unfold execOp
          simp only [ho, hx, Instr.extract, hv]
          rfl
        rw [hr] at h
        simp [go_sem, Oper.upon] at h
    | _ =>
      exfalso
      have hr : (execOp a.eval oj).run P w = (stuck "Extract: tuple expected" : Sem Next).run P w := by
        unfold execOp
        simp only [ho, hx, Instr.extract]
        rfl
      rw [hr] at h
      simp [go_sem, Oper.upon] at h
  · exact absurd h hna
theorem unlisted_dep {k : Nat} {o : Oper} {listed : Array Bool} (h : ∀ e ∈ o.after, Region.binds md e = true → listed.getD e.on false = true) (hk : listed.getD k true = false) : ∀ e ∈ o.after, Region.binds md e = true → e.on ≠ k := fun e he hb heq => by
  have h1 := h e he hb
  rw [heq, getD_both hk] at h1
  cases h1
/-- An edge more, and the walk still tells of all orders. -/
theorem wpAny_edge (H : EdgeOk md ops i j oi oj) (hQ : ∀ c a v w, Q (.panic c) (a.put oj.dst v) w → Q (.panic c) a w) :
    ∀ (fuel : Nat) (listed : Array Bool) (a : Act) (w : World), listed.size = ops.size → wpAny P md (ops.setIfInBounds i (withEdge oi j)) Q fuel listed a w → wpAny P md ops Q fuel listed a w := by
  intro fuel
  induction fuel with
  | zero =>
    intro listed a w hs h
    refine ⟨List.eq_nil_iff_forall_not_mem.2 fun k hk => ?_, h.2⟩
    rcases ready_more H hs hk with h1 | ⟨_, _, _, h1⟩ <;> (rw [h.1] at h1; cases h1)
  | succ fuel ih =>
    intro listed a w hs h
    refine ⟨fun he => h.1 (List.eq_nil_iff_forall_not_mem.2 fun k hk => ?_), fun k hk => ?_⟩
    · have := ready_less H.hi hk
      rw [he] at this; cases this
    · rcases ready_more H hs hk with h1 | ⟨rfl, hun, hjr, hjr'⟩
      · exact wpOp_mono (fun a' w' h' => ih _ a' w' (by simpa using hs) h') ((wpOp_edge H.hi k _ a w).1 (h.2 k h1))
      · have hkr := hk
        obtain ⟨v, hy, hK⟩ := extract_yields H ((wpOp_edge H.hi j _ a w).1 (h.2 j hjr'))
        have hK' := ih (listed.setIfInBounds j true) (a.put oj.dst v) w (by simpa using hs) hK
        have hkj := ready_mono hkr H.ne
        cases fuel with
        | zero => rw [hK'.1] at hkj; cases hkj
        | succ f =>
          have h3 := hK'.2 k hkj
          obtain ⟨hun2, ok, hok, hall⟩ := mem_ready.1 hkr
          rw [H.hi] at hok; cases hok
          obtain ⟨_, oj2, hoj2, hallj⟩ := mem_ready.1 hjr
          rw [H.hj] at hoj2; cases hoj2
          have hap := H.apart k oi H.hi H.ne (unlisted_dep hall hun) (unlisted_dep hallj hun2)
          have h4 := wpOp_put H.hi hap (fun cs b => Region.noSelect_spec H.sel j oj cs b H.hj) (fun cs b => Region.noSelect_spec H.sel k oi cs b H.hi) (fun c a w => hQ c a v w) hy h3
          refine wpOp_mono (fun a' w' h5 => ?_) h4
          refine wpAny_first H.hj (Region.noSelect_spec H.sel) (fun c a w => hQ c a v w) f (listed.setIfInBounds k true) a' w' (fun q oq hq hqj hunq hno => H.apart q oq hq hqj hno (unlisted_dep hallj ?_)) (ready_mono hjr H.ne.symm) h5.1 ?_
          · by_cases hkq : k = q
            · subst hkq; exact hun2
            · rw [getD_set_ne true hkq] at hunq; exact hunq
          · rw [Array.setIfInBounds_comm _ _ H.ne]
            exact h5.2
end
section
variable {P : Program} {Q : Exit → Act → World → Prop}
def edgesB (md : Region.Mode) : List Oper → List (Nat × Nat) → Bool
  | _, [] => true
  | l, e :: es => edgeB md l.toArray e.1 e.2 && edgesB md (addEdge l e) es
theorem addEdge_length (l : List Oper) (e : Nat × Nat) : (addEdge l e).length = l.length := by
  unfold addEdge; split <;> simp
theorem wpAny_edges {md : Region.Mode} (hQ : ∀ c a (d : Tmp) v w, Q (.panic c) (a.put (some d) v) w → Q (.panic c) a w) : ∀ (es : List (Nat × Nat)) (l : List Oper), edgesB md l es = true → ∀ (fuel : Nat) (listed : Array Bool) (a : Act) (w : World), listed.size = l.length →
    wpAny P md (es.foldl addEdge l).toArray Q fuel listed a w → wpAny P md l.toArray Q fuel listed a w
  | [], _, _, _, _, _, _, _, h => h
  | e :: es, l, hB, fuel, listed, a, w, hs, h => by
    simp only [edgesB, Bool.and_eq_true] at hB
    have h1 := wpAny_edges hQ es (addEdge l e) hB.2 fuel listed a w (by rw [addEdge_length]; exact hs) h
    obtain ⟨oi, oj, H⟩ := edge_ok hB.1
    have hl : (addEdge l e).toArray = l.toArray.setIfInBounds e.1 (withEdge oi e.2) := by
      have hi : l[e.1]? = some oi := by simpa using H.hi
      unfold addEdge
      simp [hi]
    rw [hl] at h1
    have hQ' : ∀ c a v w, Q (.panic c) (a.put oj.dst v) w → Q (.panic c) a w := fun c a v w h => by
      cases hd : oj.dst with
      | none => rw [hd] at h; exact h
      | some d => rw [hd] at h; exact hQ c a d v w h
    exact wpAny_edge H hQ' fuel listed a w (by simpa using hs) h1
theorem foldl_length (es : List (Nat × Nat)) : ∀ l : List Oper, (es.foldl addEdge l).length = l.length := by
  induction es with
  | nil => intro l; rfl
  | cons e es ih => intro l; rw [List.foldl_cons, ih, addEdge_length]
/-- The operation without its edges: what it does, and what the walk tells of it, does not look at them. -/
def strip (o : Oper) : Oper := { o with after := #[] }
theorem strip_with (o : Oper) (j : Nat) : strip (withEdge o j) = strip o := rfl
theorem strip_addEdge (l : List Oper) (e : Nat × Nat) : (addEdge l e).map strip = l.map strip := by
  unfold addEdge
  split
  · rename_i o ho
    apply List.ext_getElem?
    intro k
    rw [List.getElem?_map, List.getElem?_map, List.getElem?_set]
    by_cases hk : e.1 = k
    · subst hk
      have hlt := (List.getElem?_eq_some_iff.1 ho).1
      rw [if_pos rfl, if_pos hlt, ho]; rfl
    · rw [if_neg hk]
  · rfl
theorem strip_fold : ∀ (es : List (Nat × Nat)) (l : List Oper), (es.foldl addEdge l).map strip = l.map strip
  | [], _ => rfl
  | e :: es, l => (strip_fold es (addEdge l e)).trans (strip_addEdge l e)
theorem yielded_strip (ops : Array Oper) (tmps : Array Value) : yielded (ops.map strip) tmps = yielded ops tmps := by
  funext k
  unfold yielded
  rw [Array.getElem?_map]
  cases ops[k]? <;> rfl
theorem looksAt_strip (ops : Array Oper) (o : Oper) : (strip o).looksAt (ops.map strip) = o.looksAt ops := by
  unfold Oper.looksAt
  show _ ++ (match o.guard with | some (g, _) => (((ops.map strip)[g]?).bind (·.dst)).toList | none => []) = _
  cases o.guard with
  | none => rfl
  | some p =>
    obtain ⟨q, b⟩ := p
    show _ ++ (((ops.map strip)[q]?).bind (·.dst)).toList = _ ++ ((ops[q]?).bind (·.dst)).toList
    rw [Array.getElem?_map]
    cases ops[q]? <;> rfl
theorem known_strip (ops : Array Oper) (o : Oper) (g : Left) (w : World) : Known (ops.map strip) (strip o) g w ↔ Known ops o g w := by
  unfold Known
  rw [looksAt_strip]
  constructor
  · intro h k ok d x h1 h2 h3 h4
    exact h k (strip ok) d x (by rw [Array.getElem?_map, h1]; rfl) h2 h3 h4
  · intro h k ok d x h1 h2 h3 h4
    rw [Array.getElem?_map] at h1
    cases hk : ops[k]? with
    | none => rw [hk] at h1; cases h1
    | some o2 => rw [hk] at h1; cases h1; exact h k o2 d x hk h2 h3 h4
theorem execOp_strip (ev : Operand → Value) (o : Oper) : execOp ev (strip o) = execOp ev o := rfl
theorem runsOk_strip {C : World → Prop} {D : RelD} (ops : Array Oper) (k : Nat) (o : Oper) (a : Act) (g : Left) : RunsOk P (ops.map strip) C D k (strip o) a g ↔ RunsOk P ops C D k o a g := by
  unfold RunsOk GoesF
  rw [yielded_strip, execOp_strip]
  constructor
  · exact fun h hw w hc hk => h hw w hc ((known_strip ops o g w).2 hk)
  · exact fun h hw w hc hk => h hw w hc ((known_strip ops o g w).1 hk)
theorem nextR_strip {C : World → Prop} {D : RelD} (ops : Array Oper) (k : Nat) (o : Oper) (K : Act → Left → Prop) (a : Act) (g : Left) : NextR (ops.map strip) C D k (strip o) K a g ↔ NextR ops C D k o K a g := by
  unfold NextR
  rw [yielded_strip]
  exact Iff.rfl
theorem wpRel_strip {C : World → Prop} {D : RelD} {R : Act → Left → Prop} (ops : Array Oper) : ∀ (l : List Oper) (k : Nat) (a : Act) (g : Left), wpRel P (ops.map strip) C D R (l.map strip) k a g ↔ wpRel P ops C D R l k a g
  | [], _, _, _ => Iff.rfl
  | o :: l, k, a, g => by
    show (RunsOk P (ops.map strip) C D k (strip o) a g ∧ NextR (ops.map strip) C D k (strip o) (wpRel P (ops.map strip) C D R (l.map strip) (k + 1)) a g) ↔ (RunsOk P ops C D k o a g ∧ NextR ops C D k o (wpRel P ops C D R l (k + 1)) a g)
    rw [runsOk_strip, nextR_strip]
    constructor
    · exact fun h => ⟨h.1, h.2.mono (fun a' g' => (wpRel_strip ops l (k + 1) a' g').1)⟩
    · exact fun h => ⟨h.1, h.2.mono (fun a' g' => (wpRel_strip ops l (k + 1) a' g').2)⟩
theorem wpRel_mono {C : World → Prop} {D : RelD} {R R' : Act → Left → Prop} (ops : Array Oper) (h : ∀ a g, R a g → R' a g) : ∀ (l : List Oper) (k : Nat) (a : Act) (g : Left), wpRel P ops C D R l k a g → wpRel P ops C D R' l k a g
  | [], _, a, g, hh => h a g hh
  | _ :: l, k, _, _, hh => ⟨hh.1, hh.2.mono (fun a' g' => wpRel_mono ops h l (k + 1) a' g')⟩
theorem wpList_strip (ops : Array Oper) : ∀ (l : List Oper) (a : Act) (w : World), wpList P (ops.map strip) Q (l.map strip) a w ↔ wpList P ops Q l a w
  | [], _, _ => Iff.rfl
  | o :: l, a, w => by
    show (if Region.wanted (strip o) (yielded (ops.map strip) a.tmps) then _ else _) ↔ (if Region.wanted o (yielded ops a.tmps) then _ else _)
    rw [yielded_strip]
    have e : wpList P (ops.map strip) Q (l.map strip) = wpList P ops Q l := by
      funext a' w'; exact propext (wpList_strip ops l a' w')
    rw [e]
    exact Iff.rfl
/-- A region that draws its order, walked in the order of its text as if the edges es were there besides. -/
theorem wp_region_rel_edges {id : Nat} {a : Act} {w : World} {l : List Oper} {C : World → Prop} (es : List (Nat × Nat)) (n : Nat) (D : RelD) (hQ : ∀ c a (d : Tmp) v w, Q (.panic c) (a.put (some d) v) w → Q (.panic c) a w) (he : edgesB .any l es = true)
    (hm : P.follows .mixedOrders = true) (hB : Region.lexTailB .any (es.foldl addEdge l).toArray n = true) (hC : Grows C) (hD : Stays D) (hc : C w.drew)
    (h : wpRel P l.toArray C D (fun a' g => ∀ w', Inv C w.heap.size g w' → wpList P l.toArray Q (l.drop n) a' w') (l.take n) 0 a Left.none) : (Code.region id l.toArray true).wp P Q a w := by
  refine wp_region_any hm ?_
  have es1 := strip_fold es l
  have ea : (es.foldl addEdge l).toArray.map strip = l.toArray.map strip := by rw [List.map_toArray, List.map_toArray, es1]
  have h1 := (wpRel_strip l.toArray (l.take n) 0 a Left.none).2 h
  rw [← ea, List.map_take, ← es1, ← List.map_take] at h1
  have h2 := (wpRel_strip (es.foldl addEdge l).toArray ((es.foldl addEdge l).take n) 0 a Left.none).1 h1
  have h3 := wpRel_mono (R' := fun a' g => ∀ w', Inv C w.heap.size g w' → wpList P (es.foldl addEdge l).toArray Q ((es.foldl addEdge l).drop n) a' w') (es.foldl addEdge l).toArray (fun a' g hh w' inv => by
    have h4 := (wpList_strip l.toArray (l.drop n) a' w').2 (hh w' inv)
    rw [← ea, List.map_drop, ← es1, ← List.map_drop] at h4
    exact (wpList_strip (es.foldl addEdge l).toArray ((es.foldl addEdge l).drop n) a' w').1 h4) _ _ _ _ h2
  have := wpAny_edges (md := .any) hQ es l he l.toArray.size (Array.replicate l.toArray.size false) a { w with drawn := w.drawn + 1 } (by simp) (by
    have := wpAny_rel_tail (P := P) (Q := Q) (l := es.foldl addEdge l) n D C hB hC hD hc h3
    have e : (es.foldl addEdge l).toArray.size = l.toArray.size := by simp [foldl_length]
    rw [e] at this
    exact this)
  exact this
end
end
section
open Go Go.RowKit

section
variable {P : Program} {ops : Array Oper} {C : World → Prop} {l : List OpD} {Q : Act → Left → Prop} {o : Oper} {rest : List Oper} {k : Nat} {a : Act} {g : Left}
/-- A call that reads what the operation k0 has left. -/
theorem rel_callK (k0 : Nat) (v0 : Value) (f : FuncId) (args : Array Value) (hl : l[k]? = some (dV v0)) (hw : Region.wanted o (yielded ops a.tmps) = true) {xs : Array Operand} {tys : Array TypeId} (ho : o.op = .call { callee := .value (.func f), args := xs, argTypes := tys }) (hvs : xs.toList.map a.eval = args.toList) (he : ∀ (args : Array Value) (w : World), (callFunc f args).run P w = .ok (.enter f args) w)
    {ok : Oper} {d : Tmp} {x : Nat × Nat × (World → Prop)} (h0 : ops[k0]? = some ok) (hd : ok.dst = some d) (hin : (o.looksAt ops).contains d = true) (hx : g k0 = some x)
    (hc : ∀ w, C w → x.2.2 w → Calls P f args w (fun e w' => e = .returned v0 ∧ Below w.heap.size w w'))
    (h2 : ∀ x, wpRel P ops C (DL l) Q rest (k + 1) (a.put o.dst v0) (g.upd k x)) : wpRel P ops C (DL l) Q (o :: rest) k a g :=
  rel_stepF hw (fun w hw' hk => by
    rw [run_callOp ho args hvs he w]
    exact ⟨rfl, (hc w hw' (hk k0 ok d x h0 hd (by simpa using hin) hx)).mono (fun e w' h => ⟨v0, h.1, h.2, by rw [DL_at hl]; rfl⟩)⟩) (fun v lo hi _ ⟨w, _, h⟩ => by rw [DL_at hl] at h; cases h; exact h2 _)
/-- The same of two. -/
theorem rel_callK2 (k0 k1 : Nat) (v0 : Value) (f : FuncId) (args : Array Value) (hl : l[k]? = some (dV v0)) (hw : Region.wanted o (yielded ops a.tmps) = true) {xs : Array Operand} {tys : Array TypeId} (ho : o.op = .call { callee := .value (.func f), args := xs, argTypes := tys }) (hvs : xs.toList.map a.eval = args.toList) (he : ∀ (args : Array Value) (w : World), (callFunc f args).run P w = .ok (.enter f args) w)
    {ok ok' : Oper} {d d' : Tmp} {x x' : Nat × Nat × (World → Prop)} (h0 : ops[k0]? = some ok) (hd : ok.dst = some d) (hin : (o.looksAt ops).contains d = true) (hx : g k0 = some x)
    (h0' : ops[k1]? = some ok') (hd' : ok'.dst = some d') (hin' : (o.looksAt ops).contains d' = true) (hx' : g k1 = some x')
    (hc : ∀ w, C w → x.2.2 w → x'.2.2 w → Calls P f args w (fun e w' => e = .returned v0 ∧ Below w.heap.size w w'))
    (h2 : ∀ x, wpRel P ops C (DL l) Q rest (k + 1) (a.put o.dst v0) (g.upd k x)) : wpRel P ops C (DL l) Q (o :: rest) k a g :=
  rel_stepF hw (fun w hw' hk => by
    rw [run_callOp ho args hvs he w]
    exact ⟨rfl, (hc w hw' (hk k0 ok d x h0 hd (by simpa using hin) hx) (hk k1 ok' d' x' h0' hd' (by simpa using hin') hx')).mono (fun e w' h => ⟨v0, h.1, h.2, by rw [DL_at hl]; rfl⟩)⟩) (fun v lo hi _ ⟨w, _, h⟩ => by rw [DL_at hl] at h; cases h; exact h2 _)
/-- A call that reads what the operation k0 has left, and whose answer is told by what holds of it. -/
theorem rel_callKP (k0 : Nat) (p : Value → Nat → Nat → World → Prop) (f : FuncId) (args : Array Value) (hl : l[k]? = some (dP p)) (hw : Region.wanted o (yielded ops a.tmps) = true) {xs : Array Operand} {tys : Array TypeId} (ho : o.op = .call { callee := .value (.func f), args := xs, argTypes := tys }) (hvs : xs.toList.map a.eval = args.toList) (he : ∀ (args : Array Value) (w : World), (callFunc f args).run P w = .ok (.enter f args) w)
    {ok : Oper} {d : Tmp} {x : Nat × Nat × (World → Prop)} (h0 : ops[k0]? = some ok) (hd : ok.dst = some d) (hin : (o.looksAt ops).contains d = true) (hx : g k0 = some x)
    (hc : ∀ w, C w → x.2.2 w → Calls P f args w (fun e w' => ∃ v, e = .returned v ∧ Below w.heap.size w w' ∧ ∀ w'', Below w'.heap.size w' w'' → p v w.heap.size w'.heap.size w''))
    (h2 : ∀ v lo hi, lo ≤ hi → (∃ w, C w ∧ p v lo hi w) → wpRel P ops C (DL l) Q rest (k + 1) (a.put o.dst v) (g.upd k (lo, hi, dP p (readBy o a) v lo hi))) : wpRel P ops C (DL l) Q (o :: rest) k a g :=
  rel_stepF hw (fun w hw' hk => by
    rw [run_callOp ho args hvs he w]
    exact ⟨rfl, (hc w hw' (hk k0 ok d x h0 hd (by simpa using hin) hx)).mono (fun e w' h => by
      obtain ⟨v, he, hb, hp⟩ := h
      exact ⟨v, he, hb, by rw [DL_at hl]; exact ⟨hp w' (Below.refl _ _), hp⟩⟩)⟩) (fun v lo hi hle ⟨w, hw', h⟩ => by
    have e : DL l k (readBy o a) v lo hi = dP p (readBy o a) v lo hi := by funext w; exact DL_at hl _ _ _ _ _
    rw [e]
    rw [DL_at hl] at h
    exact h2 v lo hi hle ⟨w, hw', h.1⟩)
end
theorem Mem.init {w0 w : World} {L : List Ent} {e : Ent} (H : Mem w0 w (L ++ [e])) : Mem w0 w L := by
  have key : ∀ i (x : Ent), L[i]? = some x → (L ++ [e])[i]? = some x := fun i x h => by
    rw [List.getElem?_append_left (List.getElem?_eq_some_iff.1 h).1]; exact h
  exact ⟨H.below, fun i x h => H.blk i x (key i x h), fun i j x y hx hy hij => H.apart i j x y (key i x hx) (key j y hy) hij⟩
end
end
section
open Go Go.RowKit

theorem results_row_tmp {P : Program} {fn : Func} {p u : Tmp} {ty : TypeId} (h : fn.results = #[.cell p ty, .tmp u]) (tmps : Array Value) (w : World) (g : Nat) (t : TypeId) (cs : Array Value) (fr : Nat × Nat) (d : TypeDesc)
    (hp : tmps.getD p undef = .pointer (some ⟨g, 0, none⟩)) (hg : w.heap[g]? = some (.cells cs t fr))
    (hu : P.underlying ty = some d) (hd : (match d with | .struct _ | .array _ _ => true | _ => false) = true) (hi : (P.info? ty).map (·.size) = some cs.size) :
    (results fn tmps).run P w = .ok (.tuple #[.agg cs, tmps.getD u undef]) w := by
  rw [results_cell_tmp h, hp]
  simp [asAddr, Result.andThen, run_loadVar_row w g t ty cs fr d hg hu hd hi]
theorem results_row_tmp2 {P : Program} {fn : Func} {p u v : Tmp} {ty : TypeId} (h : fn.results = #[.cell p ty, .tmp u, .tmp v]) (tmps : Array Value) (w : World) (g : Nat) (t : TypeId) (cs : Array Value) (fr : Nat × Nat) (d : TypeDesc)
    (hp : tmps.getD p undef = .pointer (some ⟨g, 0, none⟩)) (hg : w.heap[g]? = some (.cells cs t fr))
    (hu : P.underlying ty = some d) (hd : (match d with | .struct _ | .array _ _ => true | _ => false) = true) (hi : (P.info? ty).map (·.size) = some cs.size) :
    (results fn tmps).run P w = .ok (.tuple #[.agg cs, tmps.getD u undef, tmps.getD v undef]) w := by
  have hp' : tmps[p]?.getD undef = .pointer (some ⟨g, 0, none⟩) := by simpa using hp
  simp [results, h, hp', asAddr, Result.andThen, run_loadVar_row w g t ty cs fr d hg hu hd hi]
end
end Go.Proofs.YtaioflkonpommaaDoor
