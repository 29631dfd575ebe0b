/-
  Rows of structs of integers as lists; what an append to a boxed slice leaves of other blocks.
-/
import Derived.Test.YtaccpnpoeikaaaaDoorSow
import Derived.RangeFuncBox
namespace Go.Proofs.YtaccpnpoeikaaaaDoor
open Go Go.RowKit

/-- The rows of a list. -/
def rowsF (R : List (Nat → Int)) : Nat → Nat → Int := fun i j => R.getD i (fun _ => 0) j
theorem rowsF_snoc {R : List (Nat → Int)} {r : Nat → Int} {i : Nat} (h : i < R.length) (j : Nat) : rowsF (R ++ [r]) i j = rowsF R i j := by
  unfold rowsF; simp [List.getD, List.getElem?_append_left h]
theorem rowsF_last (R : List (Nat → Int)) (r : Nat → Int) (j : Nat) : rowsF (R ++ [r]) R.length j = r j := by
  unfold rowsF; simp [List.getD]
/-- The cells of one row. -/
def rcells (ks : List IntKind) (r : Nat → Int) : List Value := (List.range ks.length).map fun j => Value.int (ks.getD j .i64) (r j)
theorem scells_snoc (ks : List IntKind) (R : List (Nat → Int)) (r : Nat → Int) : (scells ks (R ++ [r]).length (rowsF (R ++ [r]))).toList = (scells ks R.length (rowsF R)).toList ++ rcells ks r := by
  apply List.ext_getElem?
  intro q
  rcases Nat.eq_zero_or_pos ks.length with h0 | hpos
  · have e : ∀ n F, (scells ks n F).toList = [] := fun n F => by
      apply List.eq_nil_of_length_eq_zero; rw [Array.length_toList, scells_size, h0, Nat.mul_zero]
    rw [e, e]; simp [rcells, h0]
  have hlen : (scells ks R.length (rowsF R)).toList.length = R.length * ks.length := by rw [Array.length_toList, scells_size]
  have hlen2 : (scells ks (R ++ [r]).length (rowsF (R ++ [r]))).toList.length = (R.length + 1) * ks.length := by rw [Array.length_toList, scells_size, List.length_append]; rfl
  have hs : (R.length + 1) * ks.length = R.length * ks.length + ks.length := by rw [Nat.add_mul, Nat.one_mul]
  have hj : q % ks.length < ks.length := Nat.mod_lt _ hpos
  have hq : q / ks.length * ks.length + q % ks.length = q := by rw [Nat.mul_comm]; exact Nat.div_add_mod _ _
  by_cases h1 : q < R.length * ks.length
  · have hi : q / ks.length < R.length := Nat.div_lt_of_lt_mul (by rw [Nat.mul_comm]; exact h1)
    rw [List.getElem?_append_left (by rw [hlen]; exact h1), Array.getElem?_toList, Array.getElem?_toList]
    have a := scells_get ks (R ++ [r]).length (rowsF (R ++ [r])) _ _ (show q / ks.length < (R ++ [r]).length by rw [List.length_append]; exact Nat.lt_of_lt_of_le hi (Nat.le_add_right _ _)) hj
    have b := scells_get ks R.length (rowsF R) _ _ hi hj
    rw [hq] at a b
    rw [a, b]
    unfold sget
    rw [rowsF_snoc hi]
  · by_cases h2 : q < R.length * ks.length + ks.length
    · obtain ⟨j, rfl⟩ : ∃ j, q = R.length * ks.length + j := ⟨q - R.length * ks.length, by omega⟩
      have hjj : j < ks.length := by omega
      rw [List.getElem?_append_right (by rw [hlen]; omega), hlen, Nat.add_sub_cancel_left, Array.getElem?_toList,
        scells_get ks (R ++ [r]).length (rowsF (R ++ [r])) R.length j (by simp) hjj]
      unfold rcells sget
      rw [rowsF_last, List.getElem?_map, List.getElem?_range hjj]; rfl
    · rw [List.getElem?_eq_none (by rw [hlen2, hs]; omega), List.getElem?_eq_none (by rw [List.length_append, hlen]; simp [rcells]; omega)]
theorem rcells_one (ks : List IntKind) (r : Nat → Int) : ∀ u ∈ rcells ks r, u.oneCell' = true := by
  intro u hu
  simp only [rcells, List.mem_map] at hu
  obtain ⟨j, _, rfl⟩ := hu
  rfl
theorem rcells_len (ks : List IntKind) (r : Nat → Int) : (rcells ks r).length = ks.length := by simp [rcells]
/-- The cells of a row that was just laid. -/
theorem row_new (w : World) (l : List Value) (t : TypeId) : ∀ j u, l[j]? = some u → (w.alloc (.cells l.toArray t)).cell? ((⟨w.heap.size, 0, none⟩ : Addr).add j) = some u := by
  intro j u hj
  rw [Addr.add_lit, Nat.zero_add]
  exact (Blk.new w l.toArray t).cell (by rw [List.getElem?_toArray]; exact hj)
theorem Blk.not_row {W : World} {b : Nat} {cs : Array Value} {t e : TypeId} (h : Blk W b cs t) (hte : t ≠ e) {base size k : Nat} {v : Value} {xs : List Value} (hr : W.ownsRow base e size v k xs) : some b ≠ v.ownBlock := by
  rcases hr.2 with ⟨rfl, _⟩ | ⟨g, cap, cur, rfl, _, hgb, _⟩
  · simp [Value.ownBlock]
  · intro e'
    obtain rfl : b = g := by simpa [Value.ownBlock] using e'
    have := (show W.heap[b]? = _ from h).symm.trans hgb
    simp at this
    exact hte this.2
/-- Behind an append to a boxed slice and the store into the box, the other blocks of the call's own are as they were. -/
theorem Mem.appended {w W w1 : World} {L : List Ent} (H : Mem w W L) {n₀ B : Nat} {e : TypeId} {size : Nat} {v : Value} {k : Nat} {xs : List Value} {tmp : Obj} (v' : Value)
    (hrow : W.ownsRow n₀ e size v k xs) (hgrow : (W.alloc tmp).grownBy w1 v.ownBlock) (hn : w.heap.size ≤ n₀) (hB : w.heap.size ≤ B)
    (hne : ∀ x ∈ L, x.b ≠ B ∧ x.t ≠ e) : Mem w (w1.setCell ⟨B, 0, none⟩ v') L := by
  have hb : Below w.heap.size w (w1.setCell ⟨B, 0, none⟩ v') := by
    refine ((H.below.alloc H.below.size tmp).grown hgrow (by have := H.below.size; simp; omega) fun j ej => ?_).setCell (p := ⟨B, 0, none⟩) hB v'
    rcases hrow.2 with ⟨rfl, _⟩ | ⟨g, cap, cur, rfl, hb, _, _⟩
    · simp [Value.ownBlock] at ej
    · obtain rfl : g = j := by simpa [Value.ownBlock] using ej
      omega
  refine ⟨hb, fun i x h => ⟨(H.blk i x h).1, ?_⟩, H.apart⟩
  obtain ⟨h1, h2⟩ := hne x (List.mem_of_getElem? h)
  have hx := (H.blk i x h).2
  have hx1 : Blk w1 x.b x.cs x.t := by
    unfold Blk
    rw [hgrow.block x.b (hx.alloc tmp).lt (hx.not_row h2 hrow)]
    exact hx.alloc tmp
  exact hx1.setOther v' h1
/-- A slice of one's own is written out. -/
theorem own_out {W : World} {base : Nat} {e : TypeId} {size : Nat} {v : Value} {k : Nat} {xs : List Value} (h : W.ownsRow base e size v k xs) : ∃ p c, v = .slice p k c := by
  rcases h.2 with ⟨rfl, h0⟩ | ⟨g, cap, _, rfl, _⟩
  · exact ⟨none, 0, by rw [h0]⟩
  · exact ⟨_, cap, rfl⟩
end Go.Proofs.YtaccpnpoeikaaaaDoor
