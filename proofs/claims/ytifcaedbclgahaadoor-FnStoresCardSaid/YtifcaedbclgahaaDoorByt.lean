/-
  Bytes: slices of uint8, opened.
-/
import Derived.Test.YtifcaedbclgahaaDoorOpen
import Derived.OpenShut
import Derived.Deep.Slices
import Derived.Lib.Hide
namespace Go.Proofs.YtifcaedbclgahaaDoor
open Go Go.RowKit Go.WideShapes Go.ChangeShapes Go.Deep

/-- n numbers in a block, from a place on. -/
def InQ (w : World) (b o n : Nat) (g : Nat → Int) : Prop := ∀ i, i < n → w.cell? ⟨b, o + i, none⟩ = some (.int .u8 (g i))
theorem InQ.later {w w' : World} {b o n : Nat} {g : Nat → Int} (h : InQ w b o n g) (hb : Below w.heap.size w w') : InQ w' b o n g := fun i hi => by
  have hc := h i hi
  have hlt := World.block_lt_of_cell? _ _ hc
  rw [hb.cell hlt]; exact hc
/-- What a slice argument of numbers reads. -/
def QJ (w : World) (p : Option Addr) (n : Nat) (g : Nat → Int) : Prop := n = 0 ∨ ∃ b o, p = some ⟨b, o, none⟩ ∧ InQ w b o n g
theorem QJ.later {w w' : World} {p : Option Addr} {n : Nat} {g : Nat → Int} (h : QJ w p n g) (hb : Below w.heap.size w w') : QJ w' p n g := by
  rcases h with h | ⟨b, o, e, J⟩
  · exact .inl h
  · exact .inr ⟨b, o, e, J.later hb⟩
theorem Blk.inQ {w : World} {b n : Nat} {g : Nat → Int} {t : TypeId} (h : Blk w b (acells .u8 n g) t) : InQ w b 0 n g := fun i hi => by
  rw [Nat.zero_add]; exact h.cell (acells_get .u8 n g i hi)
def WfQ (n : Nat) (g : Nat → Int) : Prop := ∀ i, i < n → 0 ≤ g i ∧ g i ≤ 255
theorem open_octets {H : Type} {enc : TypeId × Value → H} {P : Program} {w : World} {b0 base : Nat} {r : Reach} {spare : Nat → Bool} {held : Bool} {t e : TypeId} {v : Value} {d : DataW H} {pl : List MemPlace}
    (ht : P.underlying t = some (.slice e)) (he : P.underlying e = some (.int .u8)) (hC : P.cellsOf e = 1)
    (hv : Value.okWide P w r b0 t v) (h : DataW.Trod enc P w base spare held t v d pl) :
    ∃ (p : Option Addr) (n c : Nat) (g : Nat → Int), v = .slice p n c ∧ n ≤ maxLen ∧ QJ w p n g ∧ WfQ n g := by
  obtain ⟨a, len, cap, rfl⟩ := okWide_slice ht hv
  obtain ⟨fuel, hfu⟩ := h
  have hfu' : DataW.trod enc P w base spare held fuel t [.slice a len cap] = some (d, pl) := hfu
  rcases open_slice ht hfu' with ⟨h0, _⟩ | ⟨a', len', cap', m, n', D, Pl, hcs, _, hl, hm, hmm, _, hi⟩
  · simp only [List.cons.injEq, Value.slice.injEq, and_true] at h0
    obtain ⟨rfl, rfl, rfl⟩ := h0
    exact ⟨_, _, _, fun _ => 0, rfl, Nat.zero_le _, .inl rfl, fun i hi => absurd hi (by omega)⟩
  · simp only [List.cons.injEq, Value.slice.injEq, and_true] at hcs
    obtain ⟨rfl, rfl, rfl⟩ := hcs
    have hlm : len ≤ m := by rw [hmm]; split <;> omega
    have key : ∀ i, ∃ k : Int, i < len → w.cell? ((a'.add (i * 1)).add 0) = some (.int .u8 k) ∧ (Lit.int .u8 k).wf = true := fun i => by
      by_cases hij : i < len
      · obtain ⟨cs', hc, htr⟩ := hi i (by omega)
        rw [hC] at hc
        obtain ⟨_, hcl, hat⟩ := World.cells?_some hc
        obtain ⟨k', e1, e2, e3⟩ := DataW.trod_int he htr
        subst e1
        exact ⟨k', fun _ => ⟨by rw [hat 0 (by omega)]; rfl, by first | exact e3.1 | exact e3⟩⟩
      · exact ⟨0, fun h1 => absurd h1 hij⟩
    obtain ⟨g, hg⟩ : ∃ g : Nat → Int, ∀ i, i < len → w.cell? ((a'.add (i * 1)).add 0) = some (.int .u8 (g i)) ∧ (Lit.int .u8 (g i)).wf = true := ⟨fun i => Classical.choose (key i), fun i => Classical.choose_spec (key i)⟩
    clear key
    refine ⟨_, _, _, g, rfl, by omega, ?_, fun i hi => bounds_u8 (hg i hi).2⟩
    by_cases hz : len = 0
    · exact .inl hz
    · obtain ⟨b, o, spot⟩ := a'
      have h00 := (hg 0 (by omega)).1
      have hspot : spot = none := by simpa [Addr.add] using World.cell?_spot h00
      subst hspot
      refine .inr ⟨b, o, rfl, fun i hi => ?_⟩
      have h := (hg i hi).1
      rw [Addr.add_mid, Addr.add_mid, Nat.mul_one, Nat.add_zero] at h
      exact h
end Go.Proofs.YtifcaedbclgahaaDoor
