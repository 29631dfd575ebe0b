/-
  The program's check of a field and a list of numbers, wherever the list lies.
-/
import Derived.Test.YteclngooblafoaaDoorCoreC
import Derived.Test.YteclngooblafoaaDoorMark
namespace Go.Proofs.YteclngooblafoaaDoor
open Go Go.RowKit

set_option maxRecDepth 100000 in
set_option maxHeartbeats 4000000 in
theorem checkCells_nil (f : Fd) (hf : f.Wf) (hok : okF f = true) (A : Nat → Addr) (p : Option Addr) (c : Nat) (w : World) (S0 : Sents w A) :
    Calls Tryd.prog 79 #[.agg (fcells f), .slice p 0 c] w fun e w' => e = .returned (Value.nilIface) ∧ Below w.heap.size w w' := by
  have S : Hid (Sents w A) := Lib.hid S0
  clear S0
  have hH : f.H ≤ 10 := (okF_size hok).2.2.2
  have hif := isIfaceErr
  go_enter Tryd.func79, Tryd.ntmps79
  go_upto_region 1 with (fail)
  obtain ⟨W, hW, M⟩ := open1 w (fcells f) 33
  rw [hW]; clear hW
  go_upto_region 4 with (first
      | (refine wpList_load_part rfl 33 _ rfl w.heap.size 0 rfl (fcells f) _ (M.at 0 rfl).whole Tryd.underlying33 rfl (by rw [fcells_size]; exact sizeFd) ?_)
      | (refine wpList_buildRow rfl 146 33 _ rfl (fcells f) rfl Tryd.underlying146 (by rw [fcells_size]; exact sizeFd) (by rw [fcells_size]; kernel_rfl) (by rw [fcells_size]; omega) (by rw [fcells_size]; omega) ?_)
      | (go_at_call 92; refine (checkFields1 f hf A _ _ _ (Blk.new _ _ _) (S.out.later (M.alloc _ _).below)).mono ?_; rintro e W2 ⟨rfl, hb⟩; rw [hok, errIf_true]; have M2 := (M.alloc _ _).call hb))
  clear hb
  go_wp2_with fail
  refine wp_loop_rounds 1 ?_
  rw [rounds_succ]
  go_wp2_with fail
  go_ret
  exact ⟨rfl, M2.below⟩
set_option maxRecDepth 100000 in
set_option maxHeartbeats 4000000 in
theorem checkCells_some (f : Fd) (hf : f.Wf) (hok : okF f = true) (n : Nat) (hn : n ≤ 2 ^ 40) (g : Nat → Int) (hg : ∀ i, i < n → -9223372036854775808 ≤ g i ∧ g i ≤ 9223372036854775807) (A : Nat → Addr) (bc c : Nat) (w : World) (I : InI w bc 0 n g) (S0 : Sents w A) :
    Calls Tryd.prog 79 #[.agg (fcells f), .slice (some ⟨bc, 0, none⟩) n c] w fun e w' => e = .returned (errIf A 2 (allTo n (fun i => isCell f (g i)))) ∧ Below w.heap.size w w' := by
  have S : Hid (Sents w A) := Lib.hid S0
  have HI := Lib.hid I
  have HG := Lib.hid hg
  clear S0 hg I
  have hH : f.H ≤ 10 := (okF_size hok).2.2.2
  have hif := isIfaceErr
  go_enter Tryd.func79, Tryd.ntmps79
  go_upto_region 1 with (fail)
  obtain ⟨W, hW, M⟩ := open1 w (fcells f) 33
  rw [hW]; clear hW
  go_upto_region 4 with (first
      | (refine wpList_load_part rfl 33 _ rfl w.heap.size 0 rfl (fcells f) _ (M.at 0 rfl).whole Tryd.underlying33 rfl (by rw [fcells_size]; exact sizeFd) ?_)
      | (refine wpList_buildRow rfl 146 33 _ rfl (fcells f) rfl Tryd.underlying146 (by rw [fcells_size]; exact sizeFd) (by rw [fcells_size]; kernel_rfl) (by rw [fcells_size]; omega) (by rw [fcells_size]; omega) ?_)
      | (go_at_call 92; refine (checkFields1 f hf A _ _ _ (Blk.new _ _ _) (S.out.later (M.alloc _ _).below)).mono ?_; rintro e W2 ⟨rfl, hb⟩; rw [hok, errIf_true]; have M2 := (M.alloc _ _).call hb))
  clear hb
  have M3 : Mem w W2 [⟨w.heap.size, fcells f, 33⟩] := ⟨M2.below, (fun i e h => by
    rcases i with _ | i
    · exact M2.blk 0 e h
    · simp at h), (fun i j e e' h h' hij => by
    rcases i with _ | i
    · rcases j with _ | j
      · exact absurd rfl hij
      · simp at h'
    · simp at h)⟩
  clear M M2
  go_wp2_with fail
  go_loopw [16] (fun i wr => ∃ k : Nat, k ≤ n ∧ i = .int .i64 k ∧ Mem w wr [⟨w.heap.size, fcells f, 33⟩] ∧ Hid (∀ i, i < k → isCell f (g i) = true)) (fun i _ => n - (intOf i).toNat)
  case atStart => exact ⟨0, by omega, rfl, M3, Lib.hid (fun i hi => by omega)⟩
  case round =>
    clear M3
    obtain ⟨k, hk, rfl, M3, hall⟩ := hrel
    by_cases hlt : k < n
    · have c0 := (HI.out.later M3.below) k hlt
      rw [Nat.zero_add] at c0
      cases hc : isCell f (g k) with
      | true =>
        go_wp2_with (first
          | (refine wpList_load_part rfl 33 _ rfl w.heap.size 0 rfl (fcells f) _ (M3.at 0 rfl).whole Tryd.underlying33 rfl (by rw [fcells_size]; exact sizeFd) ?_)
          | (go_at_call 74; refine (fieldHas_any f hf hH (g k) (HG.out k hlt).1 (HG.out k hlt).2 _).mono ?_; rintro e W4 ⟨rfl, hb⟩; rw [hc]; have M4 := M3.call hb))
        go_roundw
        case rel => exact ⟨k + 1, by omega, by go_num, M4, Lib.hid (upto_succ hall.out hc)⟩
        case measure => simp [intOf]; omega
      | false =>
        go_wp2_with (first
          | (refine wpList_load_part rfl 33 _ rfl w.heap.size 0 rfl (fcells f) _ (M3.at 0 rfl).whole Tryd.underlying33 rfl (by rw [fcells_size]; exact sizeFd) ?_)
          | (go_at_call 74; refine (fieldHas_any f hf hH (g k) (HG.out k hlt).1 (HG.out k hlt).2 _).mono ?_; rintro e W4 ⟨rfl, hb⟩; rw [hc]; have M4 := M3.call hb; have hv2 := (S.out.later M4.below).v2))
        go_ret
        exact ⟨by rw [allTo_false hlt (by rw [hc])]; rfl, M4.below⟩
    · obtain rfl : k = n := by omega
      go_wp2_with fail
      go_ret
      exact ⟨by rw [allTo_iff.2 hall.out]; rfl, M3.below⟩
theorem checkCells_O (f : Fd) (hf : f.Wf) (hok : okF f = true) (n : Nat) (hn : n ≤ 2 ^ 40) (g : Nat → Int) (hg : ∀ i, i < n → -9223372036854775808 ≤ g i ∧ g i ≤ 9223372036854775807) (A : Nat → Addr) (p : Option Addr) (c : Nat) (w : World) (I : InO w p n g) (S0 : Sents w A) :
    Calls Tryd.prog 79 #[.agg (fcells f), .slice p n c] w fun e w' => e = .returned (errIf A 2 (allTo n (fun i => isCell f (g i)))) ∧ Below w.heap.size w w' := by
  rcases I with rfl | ⟨b, rfl, I⟩
  · exact checkCells_nil f hf hok A p c w S0
  · exact checkCells_some f hf hok n hn g hg A b c w I S0
end Go.Proofs.YteclngooblafoaaDoor
