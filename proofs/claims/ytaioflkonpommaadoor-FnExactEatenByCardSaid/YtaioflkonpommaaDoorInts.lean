/-
  Slices of int64: opened, copied by the laws, compared.
-/
import Derived.Test.YtaioflkonpommaaDoorCoreB
import Derived.OpenShut
import Derived.Deep.Slices
import Derived.Deep.DeepCutAuto
import Derived.BigRegion
import Derived.RangeFuncNested
namespace Go.Proofs.YtaioflkonpommaaDoor
open Go Go.RowKit Go.WideShapes Go.ChangeShapes Go.Deep

/-- n numbers in a block, from a place on. -/
def InI (w : World) (b o n : Nat) (g : Nat → Int) : Prop := ∀ i, i < n → w.cell? ⟨b, o + i, none⟩ = some (.int .i64 (g i))
theorem InI.later {w w' : World} {b o n : Nat} {g : Nat → Int} (h : InI w b o n g) (hb : Below w.heap.size w w') : InI w' b o n g := fun i hi => by
  have hc := h i hi
  have hlt := World.block_lt_of_cell? _ _ hc
  rw [hb.cell hlt]; exact hc
/-- What a slice argument of numbers reads. -/
def InJ (w : World) (p : Option Addr) (n : Nat) (g : Nat → Int) : Prop := n = 0 ∨ ∃ b o, p = some ⟨b, o, none⟩ ∧ InI w b o n g
theorem InJ.later {w w' : World} {p : Option Addr} {n : Nat} {g : Nat → Int} (h : InJ w p n g) (hb : Below w.heap.size w w') : InJ w' p n g := by
  rcases h with h | ⟨b, o, e, J⟩
  · exact .inl h
  · exact .inr ⟨b, o, e, J.later hb⟩
theorem Blk.inI {w : World} {b n : Nat} {g : Nat → Int} {t : TypeId} (h : Blk w b (acells .i64 n g) t) : InI w b 0 n g := fun i hi => by
  rw [Nat.zero_add]; exact h.cell (acells_get .i64 n g i hi)
def Wf64 (n : Nat) (g : Nat → Int) : Prop := ∀ i, i < n → -9223372036854775808 ≤ g i ∧ g i ≤ 9223372036854775807
theorem open_nums {H : Type} {enc : TypeId × Value → H} {P : Program} {w : World} {b0 base : Nat} {r : Reach} {spare : Nat → Bool} {held : Bool} {t e : TypeId} {v : Value} {d : DataW H} {pl : List MemPlace}
    (ht : P.underlying t = some (.slice e)) (he : P.underlying e = some (.int .i64)) (hC : P.cellsOf e = 1)
    (hv : Value.okWide P w r b0 t v) (h : DataW.Trod enc P w base spare held t v d pl) :
    ∃ (p : Option Addr) (n c : Nat) (g : Nat → Int), v = .slice p n c ∧ n ≤ maxLen ∧ InJ w p n g ∧ Wf64 n g := by
  obtain ⟨a, len, cap, rfl⟩ := okWide_slice ht hv
  obtain ⟨fuel, hfu⟩ := h
  have hfu' : DataW.trod enc P w base spare held fuel t [.slice a len cap] = some (d, pl) := hfu
  rcases open_slice ht hfu' with ⟨h0, _⟩ | ⟨a', len', cap', m, n', D, Pl, hcs, _, hl, hm, hmm, _, hi⟩
  · simp only [List.cons.injEq, Value.slice.injEq, and_true] at h0
    obtain ⟨rfl, rfl, rfl⟩ := h0
    exact ⟨_, _, _, fun _ => 0, rfl, Nat.zero_le _, .inl rfl, fun i hi => absurd hi (by omega)⟩
  · simp only [List.cons.injEq, Value.slice.injEq, and_true] at hcs
    obtain ⟨rfl, rfl, rfl⟩ := hcs
    have hlm : len ≤ m := by rw [hmm]; split <;> omega
    have key : ∀ i, ∃ k : Int, i < len → w.cell? ((a'.add (i * 1)).add 0) = some (.int .i64 k) ∧ (Lit.int .i64 k).wf = true := fun i => by
      by_cases hij : i < len
      · obtain ⟨cs', hc, htr⟩ := hi i (by omega)
        rw [hC] at hc
        obtain ⟨_, hcl, hat⟩ := World.cells?_some hc
        obtain ⟨k', e1, e2, e3⟩ := DataW.trod_int he htr
        subst e1
        exact ⟨k', fun _ => ⟨by rw [hat 0 (by omega)]; rfl, by first | exact e3.1 | exact e3⟩⟩
      · exact ⟨0, fun h1 => absurd h1 hij⟩
    obtain ⟨g, hg⟩ : ∃ g : Nat → Int, ∀ i, i < len → w.cell? ((a'.add (i * 1)).add 0) = some (.int .i64 (g i)) ∧ (Lit.int .i64 (g i)).wf = true := ⟨fun i => Classical.choose (key i), fun i => Classical.choose_spec (key i)⟩
    clear key
    refine ⟨_, _, _, g, rfl, by omega, ?_, fun i hi => bounds_i64 (hg i hi).2⟩
    by_cases hz : len = 0
    · exact .inl hz
    · obtain ⟨b, o, spot⟩ := a'
      have h00 := (hg 0 (by omega)).1
      have hspot : spot = none := by simpa [Addr.add] using World.cell?_spot h00
      subst hspot
      refine .inr ⟨b, o, rfl, fun i hi => ?_⟩
      have h := (hg i hi).1
      rw [Addr.add_mid, Addr.add_mid, Nat.mul_one, Nat.add_zero] at h
      exact h
theorem scells_nums (n : Nat) (g : Nat → Int) : scells [.i64] n (fun i _ => g i) = acells .i64 n g := by
  apply Array.ext_getElem?
  intro i
  by_cases hi : i < n
  · have h := scells_get [.i64] n (fun i _ => g i) i 0 hi (by decide)
    simp only [List.length_cons, List.length_nil, Nat.zero_add, Nat.mul_one, Nat.add_zero] at h
    rw [h, acells_get .i64 n g i hi]; rfl
  · rw [Array.getElem?_eq_none (by simp [scells_size]; omega), Array.getElem?_eq_none (by rw [acells_size]; omega)]
set_option maxRecDepth 100000 in
set_option maxHeartbeats 800000 in
theorem eqInt64S_same (n : Nat) (hn : n ≤ 2 ^ 40) (g : Nat → Int) (b d c e : Nat) (w : World) (I1 : InI w b 0 n g) (I2 : InI w d 0 n g) :
    Calls Tryd.prog 29 #[.slice (some ⟨b, 0, none⟩) n c, .slice (some ⟨d, 0, none⟩) n e] w fun e w' => e = .returned (.bool true) ∧ Below w.heap.size w w' := by
  have H1 := Lib.hid I1
  have H2 := Lib.hid I2
  clear I1 I2
  go_enter Tryd.func29, Tryd.ntmps29
  go_wp2_with fail
  go_loopw [5] (fun i wr => ∃ k : Nat, k ≤ n ∧ i = .int .i64 k ∧ Below w.heap.size w wr) (fun i _ => n - (intOf i).toNat)
  case atStart => exact ⟨0, by omega, rfl, Below.refl _ _⟩
  case round =>
    obtain ⟨k, hk, rfl, hb⟩ := hrel
    by_cases hlt : k < n
    · have c0 := (H1.out.later hb) k hlt
      have d0 := (H2.out.later hb) k hlt
      rw [Nat.zero_add] at c0 d0
      go_wp2_with fail
      go_region
      all_goals go_wp2_with fail
      all_goals go_roundw
      all_goals (first | (case rel => exact ⟨k + 1, by omega, by go_num, hb.drew⟩) | skip)
      all_goals (simp [intOf]; omega)
    · obtain rfl : k = n := by omega
      go_wp2_with fail
      go_ret
      exact ⟨rfl, hb⟩
end Go.Proofs.YtaioflkonpommaaDoor
