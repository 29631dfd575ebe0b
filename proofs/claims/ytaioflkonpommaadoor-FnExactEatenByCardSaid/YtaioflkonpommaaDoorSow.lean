/-
  Lists of structs of integers that append made: their memory is the call's own.
-/
import Derived.Test.YtaioflkonpommaaDoorLstS
import Derived.Laws.AppendOwn
import Derived.Lib.SliceRun
namespace Go.Proofs.YtaioflkonpommaaDoor
open Go Go.RowKit

/-- n structs of a slice whose block is new since lo. -/
def SO (ks : List IntKind) (t : TypeId) (lo : Nat) (w : World) (p : Option Addr) (n : Nat) (F : Nat → Nat → Int) : Prop :=
  n = 0 ∨ ∃ b cs, p = some ⟨b, 0, none⟩ ∧ lo ≤ b ∧ n * ks.length ≤ cs.size ∧ Blk w b cs t ∧ ∀ i, i < n → ∀ j, j < ks.length → cs[i * ks.length + j]? = some (sget ks F i j)
theorem SO.later {ks : List IntKind} {t : TypeId} {lo : Nat} {w w' : World} {p : Option Addr} {n : Nat} {F : Nat → Nat → Int} (h : SO ks t lo w p n F) (hb : Below w.heap.size w w') : SO ks t lo w' p n F :=
  h.imp id fun ⟨b, cs, e, h1, h2, h3, h4⟩ => ⟨b, cs, e, h1, h2, h3.later hb, h4⟩
theorem SO.weak {ks : List IntKind} {t : TypeId} {lo lo' : Nat} {w : World} {p : Option Addr} {n : Nat} {F : Nat → Nat → Int} (h : SO ks t lo w p n F) (hl : lo' ≤ lo) : SO ks t lo' w p n F :=
  h.imp id fun ⟨b, cs, e, h1, h2, h3, h4⟩ => ⟨b, cs, e, Nat.le_trans hl h1, h2, h3, h4⟩
theorem SO.inS {ks : List IntKind} {t : TypeId} {lo : Nat} {w : World} {p : Option Addr} {n : Nat} {F : Nat → Nat → Int} (h : SO ks t lo w p n F) : SV ks lo w.heap.size w p n F :=
  h.imp id fun ⟨b, cs, e, h1, _, h3, h4⟩ => ⟨b, 0, e, h1, h3.lt, fun i hi j v hj => by
    have hjs : j < ks.length := by
      have := (List.getElem?_eq_some_iff.1 hj).1
      simpa [srow_size] using this
    rw [Array.getElem?_toList, srow_get _ _ _ _ hjs] at hj
    rw [← Option.some.inj hj, Nat.zero_add]
    exact h3.cell (h4 i hi j hjs)⟩
theorem SO.sw {ks : List IntKind} {t : TypeId} {lo : Nat} {w : World} {p : Option Addr} {n : Nat} {F : Nat → Nat → Int} (h : SO ks t lo w p n F) : SW ks t lo w.heap.size w p n :=
  h.imp id fun ⟨b, cs, e, h1, h2, h3, _⟩ => ⟨b, 0, cs, e, h1, h3.lt, by rw [Nat.zero_add]; exact h2, h3⟩
theorem Sown {ks : List IntKind} {t : TypeId} {lo : Nat} {w : World} {v : Value} {n : Nat} {F : Nat → Nat → Int} (h : w.ownsRow lo t ks.length v n (scells ks n F).toList) : ∃ p c, v = .slice p n c ∧ SO ks t lo w p n F := by
  obtain ⟨_, h | ⟨b, cap, cs, rfl, hb, hB, h1, h2, h3, h4⟩⟩ := h
  · obtain ⟨rfl, h0⟩ := h
    exact ⟨none, 0, by rw [h0], .inl h0⟩
  · refine ⟨_, cap, rfl, .inr ⟨b, cs, rfl, hb, by rw [h3]; exact Nat.mul_le_mul_right _ h1, hB, fun i hi j hj => ?_⟩⟩
    have hlt := place_lt hi hj
    have h5 : (cs.toList.take (n * ks.length))[i * ks.length + j]? = (scells ks n F).toList[i * ks.length + j]? := by rw [h4]
    rw [List.getElem?_take, if_pos hlt, Array.getElem?_toList, Array.getElem?_toList, scells_get ks n F i j hi hj] at h5
    exact h5
/-- What append leaves is nil or not. -/
theorem Sown' {ks : List IntKind} {t : TypeId} {lo : Nat} {w : World} {v : Value} {n : Nat} {F : Nat → Nat → Int} (h : w.ownsRow lo t ks.length v n (scells ks n F).toList) (hv : v ≠ .slice none 0 0) : ∃ b c, v = .slice (some ⟨b, 0, none⟩) n c ∧ SO ks t lo w (some ⟨b, 0, none⟩) n F := by
  obtain ⟨p, c, e, hS⟩ := Sown h
  obtain ⟨_, h | ⟨b, cap, cs, e2, _⟩⟩ := h
  · exact absurd h.1 hv
  · rw [e] at e2
    cases e2
    exact ⟨b, _, e, hS⟩
/-- The cells of a list that came in, as append reads them. -/
theorem Snews {ks : List IntKind} {w : World} {b o n : Nat} {F : Nat → Nat → Int} (hk : 0 < ks.length) (I : InS w b o n ks F) : ∀ j u, (scells ks n F).toList[j]? = some u → w.cell? ((⟨b, o, none⟩ : Addr).add j) = some u := by
  intro j u hj
  have hjn : j < n * ks.length := by
    have := (List.getElem?_eq_some_iff.1 hj).1
    simpa [scells_size] using this
  have hi : j / ks.length < n := Nat.div_lt_of_lt_mul (by rw [Nat.mul_comm]; exact hjn)
  have hq : j % ks.length < ks.length := Nat.mod_lt _ hk
  have e : j / ks.length * ks.length + j % ks.length = j := by rw [Nat.mul_comm]; exact Nat.div_add_mod _ _
  have h1 := scells_get ks n F _ _ hi hq
  rw [e] at h1
  rw [Array.getElem?_toList, h1] at hj
  have h2 := I _ hi (j % ks.length) _ (by rw [Array.getElem?_toList]; exact srow_get ks F _ _ hq)
  rw [Nat.add_assoc, e] at h2
  rw [Addr.add_lit, h2]; exact hj
theorem Sone (ks : List IntKind) (n : Nat) (F : Nat → Nat → Int) : ∀ u ∈ (scells ks n F).toList, u.oneCell' = true := by
  intro u hu
  have h := scells_one ks n F
  rw [Array.all_eq_true_iff_forall_mem] at h
  exact h u (by simpa using hu)
theorem Slen (ks : List IntKind) (n : Nat) (F : Nat → Nat → Int) : (scells ks n F).toList.length = n * ks.length := by simp [scells_size]
end Go.Proofs.YtaioflkonpommaaDoor
