/-
  slices.Clone of flocks.
-/
import Derived.Test.YtmdfmbkchiafhaaDoorSow
import Derived.Test.YtmdfmbkchiafhaaDoorLstF
namespace Go.Proofs.YtmdfmbkchiafhaaDoor
open Go Go.RowKit

theorem Finfo : (Tryd.prog.info? 103).map (fun i => (i.zero, i.size, i.bytes)) = some (some (.agg #[.int .i16 0, .int .i16 0, .int .i16 0, .int .i16 0, .int .i16 0, .int .i8 0]), 6, 12) := by kernel_rfl
set_option maxHeartbeats 2000000 in
set_option maxRecDepth 100000 in
theorem Fclone_any (n : Nat) (hn : n ≤ 2 ^ 40) (F : Nat → Nat → Int) (b c : Nat) (w : World) (I : InS w b 0 n ksFlock F) :
    Calls Tryd.prog 68 #[.slice (some ⟨b, 0, none⟩) n c] w fun e w' => ∃ b' c', e = .returned (.slice (some ⟨b', 0, none⟩) n c') ∧ SO ksFlock 103 w.heap.size w' (some ⟨b', 0, none⟩) n F ∧ Below w.heap.size w w' := by
  have HI := Lib.hid I
  clear I
  have q22 : ∀ (w : World) (a : Option Addr) (n c n' c' : Nat), (binOp .eql 55 (.slice a n c) (.slice none n' c')).run Tryd.prog w = .ok (.bool a.isNone) w := fun w a n c n' c' => Lib.run_eql_slice_nil w _ _ a n c n' c' Tryd.underlying55
  obtain ⟨i0, hi, hz0, hz1, hz2⟩ := info_parts Finfo
  go_enter Tryd.func68, Tryd.ntmps68
  go_wp2_with (at_builtin; refine wpList_append_own _ rfl _ _ 55 rfl w.heap.size 103 i0 (.agg #[.int .i16 0, .int .i16 0, .int .i16 0, .int .i16 0, .int .i16 0, .int .i8 0]) 6 12 Tryd.underlying55 hi hz0 hz1 hz2 rfl (by decide) _ _ _ rfl (World.ownsRow_made w #[] 0 (Nat.le_refl _) (Nat.zero_le _) (by simp)) ⟨b, 0, none⟩ n c (scells ksFlock n F).toList rfl ?qc1 ?qc2 ?qc3 ?qc4 ?qc5 ?qc6 ?_)
  case qc1 => exact Slen _ _ _
  case qc2 =>
    intro j u hj
    exact Lib.cell?_alloc_some _ (Snews (by decide) HI.out j u hj)
  case qc3 => exact Sone _ _ _
  case qc4 => rw [Nat.zero_add]; unfold maxLen; omega
  case qc5 => rw [Nat.zero_add]; omega
  case qc6 => simp
  intro v' w1 hown hgrow hnil
  go_wp2
  go_ret
  (try simp only [Nat.zero_add, List.nil_append] at hown)
  have hnn : v' ≠ .slice none 0 0 := by first | exact hnil | (intro e; have := hnil.1 e; simp at this)
  obtain ⟨b', c', rfl, h⟩ := Sown' (ks := ksFlock) hown hnn
  exact ⟨b', c', rfl, h, ((Below.refl _ w).alloc (Nat.le_refl _) _).grown hgrow (by simp) (by intro k hk; simp [Value.ownBlock] at hk; omega)⟩
end Go.Proofs.YtmdfmbkchiafhaaDoor
