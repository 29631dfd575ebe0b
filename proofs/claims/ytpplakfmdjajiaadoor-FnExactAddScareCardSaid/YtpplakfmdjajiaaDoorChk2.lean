/-
  The program's check of a field and some of its cells.
-/
import Derived.Test.YtpplakfmdjajiaaDoorChk
import Derived.WalkSpells
namespace Go.Proofs.YtpplakfmdjajiaaDoor
open Go Go.RowKit

theorem errIf_true (A : Nat → Addr) (k : Nat) : errIf A k true = .nilIface := rfl
theorem errIf_false (A : Nat → Addr) (k : Nat) : errIf A k false = errVal (A k) := rfl
theorem okF_size {f : Fd} (h : okF f = true) : 1 ≤ f.W ∧ f.W ≤ 10 ∧ 1 ≤ f.H ∧ f.H ≤ 10 := by
  simp only [okF, Bool.and_eq_true, inB_iff] at h; omega

set_option maxRecDepth 100000 in
set_option maxHeartbeats 2000000 in
theorem checkCells_bad (f : Fd) (hf : f.Wf) (hok : okF f = false) (A : Nat → Addr) (v : Value) (w : World) (S0 : Sents w A) :
    Calls Tryd.prog 86 #[.agg (fcells f), v] w fun e w' => e = .returned (errVal (A 1)) ∧ Below w.heap.size w w' := by
  have S : Hid (Sents w A) := Lib.hid S0
  clear S0
  have hif := isIfaceErr
  go_enter Tryd.func86, Tryd.ntmps86
  go_upto_region 1 with (fail)
  obtain ⟨W, hW, M⟩ := open1 w (fcells f) 32
  rw [hW]; clear hW
  go_wp2_with (first
      | (refine wpList_load_part rfl 32 _ rfl w.heap.size 0 rfl (fcells f) _ (M.at 0 rfl).whole Tryd.underlying32 rfl (by rw [fcells_size]; exact sizeFd) ?_)
      | (refine wpList_buildRow rfl 156 32 _ rfl (fcells f) rfl Tryd.underlying156 (by rw [fcells_size]; exact sizeFd) (by rw [fcells_size]; kernel_rfl) (by rw [fcells_size]; omega) (by rw [fcells_size]; omega) ?_)
      | (go_at_call 116; refine (checkFields1 f hf A _ _ _ (Blk.new _ _ _) (S.out.later (M.alloc _ _).below)).mono ?_; rintro e W2 ⟨rfl, hb⟩; rw [hok, errIf_false]; have M2 := (M.alloc _ _).call hb))
  go_ret
  exact ⟨rfl, M2.below⟩

set_option maxRecDepth 100000 in
set_option maxHeartbeats 4000000 in
theorem checkCells_ok (f : Fd) (hf : f.Wf) (hok : okF f = true) (n : Nat) (hn : n ≤ 1000) (g : Nat → Int) (hg : ∀ i, i < n → -9223372036854775808 ≤ g i ∧ g i ≤ 9223372036854775807) (A : Nat → Addr) (bc : Nat) (t : TypeId) (w : World) (B : Blk w bc (acells .i64 n g) t) (S0 : Sents w A) :
    Calls Tryd.prog 86 #[.agg (fcells f), .slice (some ⟨bc, 0, none⟩) n n] w fun e w' => e = .returned (errIf A 2 (allTo n (fun i => isCell f (g i)))) ∧ Below w.heap.size w w' := by
  have S : Hid (Sents w A) := Lib.hid S0
  have HB := Lib.hid B
  have HG := Lib.hid hg
  clear S0 hg
  have hH : f.H ≤ 10 := (okF_size hok).2.2.2
  have hif := isIfaceErr
  go_enter Tryd.func86, Tryd.ntmps86
  go_upto_region 1 with (fail)
  obtain ⟨W, hW, M⟩ := open1 w (fcells f) 32
  rw [hW]; clear hW
  go_upto_region 4 with (first
      | (refine wpList_load_part rfl 32 _ rfl w.heap.size 0 rfl (fcells f) _ (M.at 0 rfl).whole Tryd.underlying32 rfl (by rw [fcells_size]; exact sizeFd) ?_)
      | (refine wpList_buildRow rfl 156 32 _ rfl (fcells f) rfl Tryd.underlying156 (by rw [fcells_size]; exact sizeFd) (by rw [fcells_size]; kernel_rfl) (by rw [fcells_size]; omega) (by rw [fcells_size]; omega) ?_)
      | (go_at_call 116; refine (checkFields1 f hf A _ _ _ (Blk.new _ _ _) (S.out.later (M.alloc _ _).below)).mono ?_; rintro e W2 ⟨rfl, hb⟩; rw [hok, errIf_true]; have M2 := (M.alloc _ _).call hb))
  clear hb B
  have M3 : Mem w W2 [⟨w.heap.size, fcells f, 32⟩] := ⟨M2.below, (fun i e h => by
    rcases i with _ | i
    · exact M2.blk 0 e h
    · simp at h), (fun i j e e' h h' hij => by
    rcases i with _ | i
    · rcases j with _ | j
      · exact absurd rfl hij
      · simp at h'
    · simp at h)⟩
  clear M M2
  go_wp2_with fail
  go_loopw [16] (fun i wr => ∃ k : Nat, k ≤ n ∧ i = .int .i64 k ∧ Mem w wr [⟨w.heap.size, fcells f, 32⟩] ∧ Hid (∀ i, i < k → isCell f (g i) = true)) (fun i _ => n - (intOf i).toNat)
  case atStart => exact ⟨0, by omega, rfl, M3, Lib.hid (fun i hi => by omega)⟩
  case round =>
    clear M3
    obtain ⟨k, hk, rfl, M3, hall⟩ := hrel
    by_cases hlt : k < n
    · have c0 := (HB.out.below M3.below HB.out.lt).cell (acells_get _ _ _ k hlt)
      cases hc : isCell f (g k) with
      | true =>
        go_wp2_with (first
          | (refine wpList_load_part rfl 32 _ rfl w.heap.size 0 rfl (fcells f) _ (M3.at 0 rfl).whole Tryd.underlying32 rfl (by rw [fcells_size]; exact sizeFd) ?_)
          | (go_at_call 117; refine (fieldHas_any f hf hH (g k) (HG.out k hlt).1 (HG.out k hlt).2 _).mono ?_; rintro e W4 ⟨rfl, hb⟩; rw [hc]; have M4 := M3.call hb))
        go_roundw
        case rel => exact ⟨k + 1, by omega, by go_num, M4, Lib.hid (upto_succ hall.out hc)⟩
        case measure => simp [intOf]; omega
      | false =>
        go_wp2_with (first
          | (refine wpList_load_part rfl 32 _ rfl w.heap.size 0 rfl (fcells f) _ (M3.at 0 rfl).whole Tryd.underlying32 rfl (by rw [fcells_size]; exact sizeFd) ?_)
          | (go_at_call 117; refine (fieldHas_any f hf hH (g k) (HG.out k hlt).1 (HG.out k hlt).2 _).mono ?_; rintro e W4 ⟨rfl, hb⟩; rw [hc]; have M4 := M3.call hb; have hv2 := (S.out.later M4.below).v2))
        go_ret
        exact ⟨by rw [allTo_false hlt (by rw [hc])]; rfl, M4.below⟩
    · obtain rfl : k = n := by omega
      go_wp2_with fail
      go_ret
      exact ⟨by rw [allTo_iff.2 hall.out]; rfl, M3.below⟩
end Go.Proofs.YtpplakfmdjajiaaDoor
