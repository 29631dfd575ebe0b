/-
  The program's checks of fields and cells.
-/
import Derived.Test.YtpplakfmdjajiaaDoorValid
import Derived.Test.YtpplakfmdjajiaaDoorErr
import Derived.Test.YtpplakfmdjajiaaDoorMapKey
import Derived.Test.YtpplakfmdjajiaaDoorIn
import Derived.DeepKeys3
import Derived.Outline
import Derived.OwnWalk
import Derived.Maps.OwnOps
namespace Go.Proofs.YtpplakfmdjajiaaDoor
open Go Go.RowKit

/-- The sentinel of what is not valid alone. -/
structure Sent1 (w : World) (A : Nat → Addr) : Prop where
  v1 : w.cell? ⟨1, 0, none⟩ = some (errVal (A 1))
theorem Sent1.later {w w' : World} {A : Nat → Addr} (h : Sent1 w A) (hb : Below w.heap.size w w') : Sent1 w' A := ⟨cell_later h.v1 hb⟩
theorem Sents.one {w : World} {A : Nat → Addr} (h : Sents w A) : Sent1 w A := ⟨h.v1⟩
def errIf (A : Nat → Addr) (k : Nat) (ok : Bool) : Value := if ok then .nilIface else errVal (A k)

set_option maxRecDepth 100000 in
set_option maxHeartbeats 2000000 in
theorem checkFieldsV (f : Fd) (hf : f.Wf) (A : Nat → Addr) (b : Nat) (t : TypeId) (w : World) (B : Blk w b (fcells f) t) (S0 : Sent1 w A) :
    Calls Tryd.prog 116 #[.slice (some ⟨b, 0, none⟩) 1 1] w fun e w' => e = .returned (errIf A 1 (okF f)) ∧ Below w.heap.size w w' := by
  have S : Hid (Sent1 w A) := Lib.hid S0
  clear S0
  have hmm := @run_makeMap Tryd.prog
  go_enter Tryd.func116, Tryd.ntmps116
  go_upto_region 2 with (fail)
  obtain ⟨W, hW⟩ : ∃ W, w.alloc (.map #[] 0) = W := ⟨_, rfl⟩
  have M : Mem w W [] := by rw [← hW]; exact (Mem.nil w).other _
  have hm : Hid (W.heap[w.heap.size]? = some (.map #[] 0)) := Lib.hid (by rw [← hW]; exact look_alloc_new _ _ _ rfl)
  have B1 : Blk W b (fcells f) t := by rw [← hW]; exact B.alloc _
  rw [hW]; clear hW B
  go_wp2_with fail
  refine wp_loop_rounds 2 ?_
  rw [rounds_succ]
  go_upto_region 4 with (fail)
  have M2 := M.alloc Tryd.zeroCells32 32
  have hz : Hid (Tryd.zeroCells32.size = 202) := Lib.hid (by rw [zeroFd, fcells_size])
  have M3 : Mem w _ [⟨W.heap.size, fcells f, 32⟩] := M2.row 0 rfl (fcells f)
  have hm3 : Hid (((W.alloc (Obj.cells Tryd.zeroCells32 32)).setRow W.heap.size (fcells f)).heap[w.heap.size]? = some (.map #[] 0)) := Lib.hid (by
    rw [look_row_other _ _ _ _ (by have := (Array.getElem?_eq_some_iff.1 hm.out).1; omega), look_alloc_old _ _ _ (by have := (Array.getElem?_eq_some_iff.1 hm.out).1; omega)]; exact hm.out)
  go_upto_region 5 with (first
    | (refine wpList_load_part rfl 32 _ rfl b 0 rfl (fcells f) _ B1.whole Tryd.underlying32 rfl (by rw [fcells_size]; exact sizeFd) ?_)
    | (refine wpList_store_row rfl 32 _ _ rfl W.heap.size (fcells f) rfl rfl 32 _ (M2.at 0 rfl) (by rw [fcells_size]; exact sizeFd) (by rw [fcells_size, hz.out]) (fcells_one _) ?_))
  generalize World.setRow _ _ _ = W2 at M3 hm3 ⊢
  clear M M2 hm hz
  obtain ⟨L, hL⟩ := keyLitsField (fs := Tryd.prog.fieldsOf 32) f hf (by kernel_rfl) (by kernel_rfl) (by kernel_rfl) Tryd.underlying22 Tryd.underlying23 Tryd.underlying5 Tryd.underlying25 Tryd.underlying24 (by kernel_rfl) (by kernel_rfl) (by kernel_rfl) (by kernel_rfl) (by kernel_rfl) (by kernel_rfl)
  have hfm : (Value.agg (fcells f)).formed Tryd.prog 32 = true := by
    simp only [Value.formed, Tryd.underlying32, fcells_size]; kernel_rfl
  have hlk := run_lookup_first (P := Tryd.prog) (dd := 4) (z := .bool false) Tryd.underlying157 hm3.out (by kernel_rfl) (by omega) hfm hL ⟨_, Tryd.underlying32⟩ (by kernel_rfl)
  have hup := fun (W' : World) (h : W'.heap[w.heap.size]? = some (.map #[] 0)) => run_update_first (P := Tryd.prog) (dd := 4) (v := .bool true) Tryd.underlying157 h (by kernel_rfl) (by omega) hfm hL ⟨_, Tryd.underlying32⟩
  have hupH := Lib.hid hup
  clear hup hL hfm
  cases hok : okF f with
  | false =>
    go_wp2_with (first
      | (refine wpList_load_part rfl 32 _ rfl W.heap.size 0 rfl (fcells f) _ (M3.at 0 rfl).whole Tryd.underlying32 rfl (by rw [fcells_size]; exact sizeFd) ?_)
      | (refine wpList_load_wanted rfl 32 _ rfl W.heap.size 0 rfl (fcells f) _ (M3.at 0 rfl).whole Tryd.underlying32 rfl (by rw [fcells_size]; exact sizeFd) ?_)
      | (go_at_call 114; refine (validField_any f hf _).mono ?_; rintro e W4 ⟨rfl, hb⟩; rw [hok]; have M4 := M3.call hb; have hv1 := (S.out.later M4.below).v1))
    go_ret
    exact ⟨by rw [hok]; rfl, M4.below⟩
  | true =>
    go_wp2_with (first
      | (refine wpList_load_part rfl 32 _ rfl W.heap.size 0 rfl (fcells f) _ (M3.at 0 rfl).whole Tryd.underlying32 rfl (by rw [fcells_size]; exact sizeFd) ?_)
      | (refine wpList_load_wanted rfl 32 _ rfl W.heap.size 0 rfl (fcells f) _ (M3.at 0 rfl).whole Tryd.underlying32 rfl (by rw [fcells_size]; exact sizeFd) ?_)
      | (go_at_call 114; refine (validField_any f hf _).mono ?_; rintro e W4 ⟨rfl, hb⟩; rw [hok]; have M4 := M3.call hb; have hu := hupH.out W4 (by rw [hb.block _ (Array.getElem?_eq_some_iff.1 hm3.out).1]; exact hm3.out))
      | (refine wpList_load_part rfl 32 _ rfl W.heap.size 0 rfl (fcells f) _ (M4.at 0 rfl).whole Tryd.underlying32 rfl (by rw [fcells_size]; exact sizeFd) ?_))
    have M5 : Mem w (W4.putObj w.heap.size (.map #[{ key := .agg (fcells f), val := .bool true, born := 0 }] 1)) [] := by
      have hb5 := below_putObj (B := w.heap.size) (m := w.heap.size) (o := .map #[{ key := .agg (fcells f), val := .bool true, born := 0 }] 1) M4.below (Nat.le_refl _)
      exact ⟨hb5, (fun _ _ h => by simp at h), (fun _ _ _ _ h => by simp at h)⟩
    rw [rounds_succ]
    go_wp2_with fail
    go_ret
    exact ⟨by rw [hok]; rfl, M5.below⟩
theorem checkFields1 (f : Fd) (hf : f.Wf) (A : Nat → Addr) (b : Nat) (t : TypeId) (w : World) (B : Blk w b (fcells f) t) (S0 : Sents w A) :
    Calls Tryd.prog 116 #[.slice (some ⟨b, 0, none⟩) 1 1] w fun e w' => e = .returned (errIf A 1 (okF f)) ∧ Below w.heap.size w w' := checkFieldsV f hf A b t w B S0.one
end Go.Proofs.YtpplakfmdjajiaaDoor
