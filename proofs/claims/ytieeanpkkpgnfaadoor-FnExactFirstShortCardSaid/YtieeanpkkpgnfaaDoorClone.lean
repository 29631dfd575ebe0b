/-
  slices.Clone of numbers.
-/
import Derived.Test.YtieeanpkkpgnfaaDoorShfI
import Derived.Lib.SliceRun
namespace Go.Proofs.YtieeanpkkpgnfaaDoor
open Go Go.RowKit

/-- n numbers of a slice whose memory is new since lo. -/
def Own (lo : Nat) (w : World) (v : Value) (n : Nat) (f : Nat → Int) : Prop := ∃ p c, v = .slice p n c ∧ (n = 0 ∨ ∃ b, p = some ⟨b, 0, none⟩ ∧ lo ≤ b ∧ HB w b n f)
theorem Own.congr {lo : Nat} {w : World} {v : Value} {n : Nat} {f g : Nat → Int} (h : Own lo w v n f) (e : ∀ i, i < n → f i = g i) : Own lo w v n g := by
  obtain ⟨p, c, h1, h2⟩ := h
  exact ⟨p, c, h1, h2.imp id fun ⟨b, h3, h4, h5⟩ => ⟨b, h3, h4, h5.congr e⟩⟩
theorem Own.later {lo : Nat} {w w' : World} {v : Value} {n : Nat} {f : Nat → Int} (h : Own lo w v n f) (hb : Below w.heap.size w w') : Own lo w' v n f := by
  obtain ⟨p, c, h1, h2⟩ := h
  exact ⟨p, c, h1, h2.imp id fun ⟨b, h3, h4, h5⟩ => ⟨b, h3, h4, h5.later hb⟩⟩
theorem Own.inO {lo : Nat} {w : World} {p : Option Addr} {c n : Nat} {f : Nat → Int} (h : Own lo w (.slice p n c) n f) : InO w p n f := by
  obtain ⟨p, c, h1, h2⟩ := h
  cases h1
  exact h2.imp id fun ⟨b, h3, _, h5⟩ => ⟨b, h3, h5.inI⟩
theorem lst_own {lo : Nat} {w : World} {v : Value} {n : Nat} {g : Nat → Int} (h : Lst lo w v ((List.range n).map g)) : Own lo w v n g := by
  obtain ⟨p, c, e, hI, _, hB⟩ := h.val
  have hl : ((List.range n).map g).length = n := by simp
  rw [hl] at e hI hB
  refine ⟨p, c, e, ?_⟩
  rcases hB with h0 | ⟨b, cs, hp, hlo, hcs, B⟩
  · exact .inl h0
  · by_cases h0 : n = 0
    · exact .inl h0
    · refine .inr ⟨b, hp, hlo, cs, B, hcs, fun i hi => ?_⟩
      rcases hI with h1 | ⟨b', hp', I⟩
      · exact absurd h1 h0
      · rw [hp] at hp'
        cases hp'
        have hc := I i hi
        rw [Nat.zero_add, cell_of_row _ _ _ _ _ _ B] at hc
        rw [hc]; simp [List.getD, List.getElem?_map, List.getElem?_range hi]
theorem infoI64 : (Tryd.prog.info? 2).map (fun i => (i.zero, i.size, i.bytes)) = some (some (.int .i64 0), 1, 8) := by kernel_rfl
set_option maxHeartbeats 2000000 in
set_option maxRecDepth 100000 in
theorem clone_any (n : Nat) (hn : n ≤ 2 ^ 40) (g : Nat → Int) (b c : Nat) (w : World) (I : InI w b 0 n g) :
    Calls Tryd.prog 33 #[.slice (some ⟨b, 0, none⟩) n c] w fun e w' => ∃ v', e = .returned v' ∧ Own w.heap.size w' v' n g ∧ Below w.heap.size w w' := by
  have HI := Lib.hid I
  clear I
  have q22 : ∀ (w : World) (a : Option Addr) (n c n' c' : Nat), (binOp .eql 22 (.slice a n c) (.slice none n' c')).run Tryd.prog w = .ok (.bool a.isNone) w := fun w a n c n' c' => Lib.run_eql_slice_nil w _ _ a n c n' c' Tryd.underlying22
  obtain ⟨i0, hi, hz0, hz1, hz2⟩ := info_parts infoI64
  go_enter Tryd.func33, Tryd.ntmps33
  go_wp2_with (at_builtin; refine wpList_append_own _ rfl _ _ 22 rfl w.heap.size 2 i0 (.int .i64 0) 1 8 Tryd.underlying22 hi hz0 hz1 hz2 rfl (by decide) _ _ _ rfl (World.ownsRow_made w #[] 0 (Nat.le_refl _) (Nat.zero_le _) (by simp)) ⟨b, 0, none⟩ n c (((List.range n).map g).map (Value.int .i64)) rfl ?qc1 ?qc2 ?qc3 ?qc4 ?qc5 ?qc6 ?_)
  case qc1 => simp
  case qc2 =>
    intro j u hj
    simp only [List.getElem?_map, Option.map_eq_some_iff] at hj
    obtain ⟨y, ⟨x, hx, rfl⟩, rfl⟩ := hj
    have hjn : j < n := by
      have := (List.getElem?_eq_some_iff.1 hx).1; simpa using this
    rw [List.getElem?_range hjn] at hx
    cases hx
    have hc := HI.out j hjn
    rw [Addr.add_lit]
    exact Lib.cell?_alloc_some _ hc
  case qc3 => intro u hu; simp at hu; obtain ⟨a, _, rfl⟩ := hu; rfl
  case qc4 => rw [Nat.zero_add]; unfold maxLen; omega
  case qc5 => rw [Nat.zero_add]; omega
  case qc6 => simp
  intro v' w1 hown hgrow hnil
  go_wp2
  go_ret
  refine ⟨v', rfl, lst_own ?_, ?_⟩
  · simpa [Lst] using hown
  · exact ((Below.refl _ w).alloc (Nat.le_refl _) _).grown hgrow (by simp) (by intro k hk; simp [Value.ownBlock] at hk; omega)
end Go.Proofs.YtieeanpkkpgnfaaDoor
