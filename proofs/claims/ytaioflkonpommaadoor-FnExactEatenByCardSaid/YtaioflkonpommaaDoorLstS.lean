/-
  Lists of structs of integers that calls make: where they lie, how they are marked and held.
-/
import Derived.Test.YtaioflkonpommaaDoorLstN
import Derived.Test.YtaioflkonpommaaDoorFlkIn
namespace Go.Proofs.YtaioflkonpommaaDoor
open Go Go.RowKit

/-- n structs of a slice that lie in a block from lo to hi. -/
def SV (ks : List IntKind) (lo hi : Nat) (w : World) (p : Option Addr) (n : Nat) (F : Nat → Nat → Int) : Prop := n = 0 ∨ ∃ b o, p = some ⟨b, o, none⟩ ∧ lo ≤ b ∧ b < hi ∧ InS w b o n ks F
/-- The same, to be written. -/
def SW (ks : List IntKind) (t : TypeId) (lo hi : Nat) (w : World) (p : Option Addr) (n : Nat) : Prop := n = 0 ∨ ∃ b o cs, p = some ⟨b, o, none⟩ ∧ lo ≤ b ∧ b < hi ∧ o + n * ks.length ≤ cs.size ∧ Blk w b cs t
theorem SV.later {ks : List IntKind} {lo hi : Nat} {w w' : World} {p : Option Addr} {n : Nat} {F : Nat → Nat → Int} (h : SV ks lo hi w p n F) (hb : Below w.heap.size w w') : SV ks lo hi w' p n F :=
  h.imp id fun ⟨b, o, e, h1, h2, h3⟩ => ⟨b, o, e, h1, h2, h3.later hb⟩
theorem SW.later {ks : List IntKind} {t : TypeId} {lo hi : Nat} {w w' : World} {p : Option Addr} {n : Nat} (h : SW ks t lo hi w p n) (hb : Below w.heap.size w w') : SW ks t lo hi w' p n :=
  h.imp id fun ⟨b, o, cs, e, h1, h2, h3, h4⟩ => ⟨b, o, cs, e, h1, h2, h3, h4.later hb⟩
theorem InS.congr {ks : List IntKind} {w : World} {b o n : Nat} {F G : Nat → Nat → Int} (h : InS w b o n ks F) (e : ∀ i, i < n → ∀ j, j < ks.length → F i j = G i j) : InS w b o n ks G := fun i hi => by
  have hrow : srow ks F i = srow ks G i := by
    apply Array.ext_getElem?
    intro j
    by_cases hj : j < ks.length
    · rw [srow_get ks F i j hj, srow_get ks G i j hj]
      show some (sget ks F i j) = some (sget ks G i j)
      unfold sget; rw [e i hi j hj]
    · rw [Array.getElem?_eq_none (by rw [srow_size]; omega), Array.getElem?_eq_none (by rw [srow_size]; omega)]
  rw [← hrow]; exact h i hi
theorem SV.congr {ks : List IntKind} {lo hi : Nat} {w : World} {p : Option Addr} {n : Nat} {F G : Nat → Nat → Int} (h : SV ks lo hi w p n F) (e : ∀ i, i < n → ∀ j, j < ks.length → F i j = G i j) : SV ks lo hi w p n G :=
  h.imp id fun ⟨b, o, e1, h1, h2, h3⟩ => ⟨b, o, e1, h1, h2, h3.congr e⟩
theorem SV.mono {ks : List IntKind} {lo hi lo' hi' : Nat} {w : World} {p : Option Addr} {n : Nat} {F : Nat → Nat → Int} (h : SV ks lo hi w p n F) (h1 : lo' ≤ lo) (h2 : hi ≤ hi') : SV ks lo' hi' w p n F :=
  h.imp id fun ⟨b, o, e, a1, a2, a3⟩ => ⟨b, o, e, by omega, by omega, a3⟩
theorem SW.mono {ks : List IntKind} {t : TypeId} {lo hi lo' hi' : Nat} {w : World} {p : Option Addr} {n : Nat} (h : SW ks t lo hi w p n) (h1 : lo' ≤ lo) (h2 : hi ≤ hi') : SW ks t lo' hi' w p n :=
  h.imp id fun ⟨b, o, cs, e, a1, a2, a3, a4⟩ => ⟨b, o, cs, e, by omega, by omega, a3, a4⟩
theorem SV.j {ks : List IntKind} {lo hi : Nat} {w : World} {p : Option Addr} {n : Nat} {F : Nat → Nat → Int} (h : SV ks lo hi w p n F) : InA ks w p n F :=
  h.imp id fun ⟨b, o, e, _, _, h3⟩ => ⟨b, o, e, h3⟩
theorem InS.marked {ks : List IntKind} {w w' : World} {b o n b2 : Nat} {F : Nat → Nat → Int} (h : InS w b o n ks F) (hg : w.grownBy w' (some b2)) (hne : b ≠ b2) : InS w' b o n ks F := fun i hi j v hj => by
  have := h i hi j v hj
  have h4 := hg.cell this (by simpa using hne)
  exact h4
theorem SV.marked {ks : List IntKind} {lo hi lo2 hi2 : Nat} {w w' : World} {p : Option Addr} {n : Nat} {F : Nat → Nat → Int} (h : SV ks lo hi w p n F) (hm : NMarks lo2 hi2 w w') (hd : hi ≤ lo2 ∨ hi2 ≤ lo) : SV ks lo hi w' p n F := by
  rcases hm with rfl | ⟨b2, k1, k2, hg, _⟩
  · exact h
  · exact h.imp id fun ⟨b, o, e, h1, h2, h3⟩ => ⟨b, o, e, h1, h2, h3.marked hg (by omega)⟩
theorem SW.marked {ks : List IntKind} {t : TypeId} {lo hi lo2 hi2 : Nat} {w w' : World} {p : Option Addr} {n : Nat} (h : SW ks t lo hi w p n) (hm : NMarks lo2 hi2 w w') (hd : hi ≤ lo2 ∨ hi2 ≤ lo) : SW ks t lo hi w' p n := by
  rcases hm with rfl | ⟨b2, k1, k2, hg, _⟩
  · exact h
  · refine h.imp id fun ⟨b, o, cs, e, h1, h2, h3, h4⟩ => ⟨b, o, cs, e, h1, h2, h3, ?_⟩
    have h5 : w'.heap[b]? = w.heap[b]? := hg.block b h4.lt (fun e => by have := Option.some.inj e; omega)
    unfold Blk; rw [h5]; exact h4
end Go.Proofs.YtaioflkonpommaaDoor
