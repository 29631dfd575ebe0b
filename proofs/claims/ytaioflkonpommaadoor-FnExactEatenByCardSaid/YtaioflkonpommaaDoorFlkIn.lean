/-
  An argument that is a slice of structs of integers: what it is, and the laws' copies of it.
-/
import Derived.Test.YtaioflkonpommaaDoorFlkLaw
import Derived.Test.YtaioflkonpommaaDoorCoreB
import Derived.Deep.Slices
namespace Go.Proofs.YtaioflkonpommaaDoor
open Go Go.RowKit Go.WideShapes Go.ChangeShapes Go.Deep

/-- What a slice argument reads: nothing where it is empty; else elements in a block. -/
def InA (ks : List IntKind) (w : World) (p : Option Addr) (n : Nat) (F : Nat → Nat → Int) : Prop := n = 0 ∨ ∃ b o, p = some ⟨b, o, none⟩ ∧ InS w b o n ks F
theorem InA.later {ks : List IntKind} {w w' : World} {p : Option Addr} {n : Nat} {F : Nat → Nat → Int} (h : InA ks w p n F) (hb : Below w.heap.size w w') : InA ks w' p n F := by
  rcases h with h | ⟨b, o, e, I⟩
  · exact .inl h
  · exact .inr ⟨b, o, e, I.later hb⟩

/-- A closed fact about a struct's fields: each is one integer of the kind told, one behind the other. -/
def intFields (P : Program) (ks : List IntKind) (fs : Array Field) : Bool := fs.size == ks.length && (List.range ks.length).all fun j => match fs[j]? with
  | some f => f.offset == j && P.cellsOf f.type == 1 && (match P.underlying f.type with | some (.int k) => decide (k = ks.getD j .i64) | _ => false)
  | none => false
theorem intFields_of {P : Program} {ks : List IntKind} {fs : Array Field} (h : intFields P ks fs = true) : fs.size = ks.length ∧ ∀ (j : Nat) (f : Field), fs[j]? = some f → f.offset = j ∧ P.cellsOf f.type = 1 ∧ P.underlying f.type = some (.int (ks.getD j .i64)) := by
  unfold intFields at h
  rw [Bool.and_eq_true] at h
  obtain ⟨h1, h2⟩ := h
  have h1 : fs.size = ks.length := by simpa using h1
  refine ⟨h1, fun j f hj => ?_⟩
  have hlt : j < ks.length := by rw [← h1]; exact (Array.getElem?_eq_some_iff.1 hj).1
  have := List.all_eq_true.1 h2 j (List.mem_range.2 hlt)
  rw [hj] at this
  simp only [Bool.and_eq_true, beq_iff_eq] at this
  obtain ⟨⟨e1, e2⟩, e3⟩ := this
  refine ⟨e1, e2, ?_⟩
  split at e3
  · rename_i k hk
    rw [hk, of_decide_eq_true e3]
  · exact absurd e3 (by simp)

theorem open_ints {H : Type} {enc : TypeId × Value → H} {P : Program} {w : World} {b0 base : Nat} {r : Reach} {spare : Nat → Bool} {held : Bool} {t e : TypeId} {fs : Array Field} {ks : List IntKind} {v : Value} {d : DataW H} {pl : List MemPlace}
    (ht : P.underlying t = some (.slice e)) (he : P.underlying e = some (.struct fs)) (hpos : 0 < ks.length) (hC : P.cellsOf e = ks.length) (hfi : intFields P ks fs = true)
    (hv : Value.okWide P w r b0 t v) (h : DataW.Trod enc P w base spare held t v d pl) :
    ∃ (p : Option Addr) (n c : Nat) (F : Nat → Nat → Int), v = .slice p n c ∧ n ≤ maxLen ∧ InA ks w p n F ∧ WfS ks n F := by
  obtain ⟨hsz, hf⟩ := intFields_of hfi
  obtain ⟨a, len, cap, rfl⟩ := okWide_slice ht hv
  obtain ⟨fuel, hfu⟩ := h
  have hfu' : DataW.trod enc P w base spare held fuel t [.slice a len cap] = some (d, pl) := hfu
  rcases open_slice ht hfu' with ⟨h0, _⟩ | ⟨a', len', cap', m, n', D, Pl, hcs, _, hl, hm, hmm, _, hi⟩
  · simp only [List.cons.injEq, Value.slice.injEq, and_true] at h0
    obtain ⟨rfl, rfl, rfl⟩ := h0
    exact ⟨_, _, _, fun _ _ => 0, rfl, Nat.zero_le _, .inl rfl, fun i hi => absurd hi (by omega)⟩
  · simp only [List.cons.injEq, Value.slice.injEq, and_true] at hcs
    obtain ⟨rfl, rfl, rfl⟩ := hcs
    have hlm : len ≤ m := by rw [hmm]; split <;> omega
    have key : ∀ i j, ∃ k : Int, i < len → j < ks.length → w.cell? ((a'.add (i * ks.length)).add j) = some (.int (ks.getD j .i64) k) ∧ (Lit.int (ks.getD j .i64) k).wf = true := fun i j => by
      by_cases hij : i < len ∧ j < ks.length
      · obtain ⟨cs', hc, htr⟩ := hi i (by omega)
        rw [hC] at hc
        obtain ⟨ys, n2, _, _, hlen, hyl, hfl⟩ := DataW.trod_struct he htr
        obtain ⟨_, hcl, hat⟩ := World.cells?_some hc
        have hjf : j < fs.size := by omega
        have hfj : fs[j]? = some fs[j] := Array.getElem?_eq_getElem hjf
        obtain ⟨ho, hc1, hu⟩ := hf j _ hfj
        have h1 := hfl j _ hfj
        rw [ho, hc1, List.getElem?_eq_getElem (by omega)] at h1
        obtain ⟨k, e1, e2⟩ := part_int hu h1
        exact ⟨k, fun _ _ => ⟨by rw [hat j hij.2, e1], e2⟩⟩
      · exact ⟨0, fun h1 h2 => absurd ⟨h1, h2⟩ hij⟩
    obtain ⟨F, hF⟩ : ∃ F : Nat → Nat → Int, ∀ i j, i < len → j < ks.length → w.cell? ((a'.add (i * ks.length)).add j) = some (.int (ks.getD j .i64) (F i j)) ∧ (Lit.int (ks.getD j .i64) (F i j)).wf = true := ⟨fun i j => Classical.choose (key i j), fun i j => Classical.choose_spec (key i j)⟩
    clear key
    refine ⟨_, _, _, F, rfl, by omega, ?_, fun i hi j hj => (hF i j hi hj).2⟩
    by_cases hz : len = 0
    · exact .inl hz
    · obtain ⟨b, o, spot⟩ := a'
      have h00 := (hF 0 0 (by omega) hpos).1
      have hspot : spot = none := by simpa [Addr.add] using World.cell?_spot h00
      subst hspot
      refine .inr ⟨b, o, rfl, fun i hi j x hx => ?_⟩
      have hj : j < ks.length := by
        have := (List.getElem?_eq_some_iff.1 hx).1
        simpa [srow_size] using this
      have hx' : (srow ks F i)[j]? = some x := by simpa using hx
      rw [srow_get _ _ _ _ hj] at hx'
      have h := (hF i j hi hj).1
      rw [Addr.add_mid, Addr.add_mid] at h
      rw [h]
      exact hx'

theorem toFlockS_arg (n : Nat) (hn : n ≤ 2 ^ 40) (F : Nat → Nat → Int) (p : Option Addr) (c : Nat) (w : World) (I : InA ksFlock w p n F) : Calls Tryd.prog 23 #[.slice p n c] w fun e w' => ∃ b', e = .returned (.slice (some ⟨b', 0, none⟩) n n) ∧ InS w' b' 0 n ksFlock F ∧ Below w.heap.size w w' := by
  rcases I with rfl | ⟨b, o, rfl, I⟩
  · refine (toFlockS_nilA F p c w).mono ?_
    rintro e w' ⟨b', rfl, _, hB, hb⟩
    exact ⟨b', rfl, hB.inS, hb⟩
  · refine (toFlockS_any n hn F b o c w I).mono ?_
    rintro e w' ⟨b', rfl, _, hB, hb⟩
    exact ⟨b', rfl, hB.inS, hb⟩
end Go.Proofs.YtaioflkonpommaaDoor
