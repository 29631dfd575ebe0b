/-
  The program's check of flocks, where no fears are asked for.
-/
import Derived.Test.YtaioflkonpommaaDoorFlkM
import Derived.Test.YtaioflkonpommaaDoorCoreC
import Derived.Test.YtaioflkonpommaaDoorFears
namespace Go.Proofs.YtaioflkonpommaaDoor
open Go Go.RowKit

set_option maxRecDepth 100000 in
set_option maxHeartbeats 2000000 in
theorem checkBirds0 (f : Fd) (hf : f.Wf) (n : Nat) (hn : n ≤ 2 ^ 40) (F : Nat → Nat → Int) (hF : WfS ksFlock n F) (A : Nat → Addr) (d c : Nat) (w : World) (T0 : TabAt w) (S0 : Sents w A) (I0 : InS w d 0 n ksFlock F) :
    Calls Tryd.prog 44 #[.agg (fcells f), .slice (some ⟨d, 0, none⟩) n c, .slice none 0 0] w fun e w' => e = .returned (errIf A 1 (okFlocks f n F)) ∧ Below w.heap.size w w' := by
  have S := Lib.hid S0
  have T := Lib.hid T0
  have I := Lib.hid I0
  clear S0 T0 I0
  have hmm := @run_makeMap Tryd.prog
  cases hok : okFlocks f n F with
  | false =>
    go_enter Tryd.func44, Tryd.ntmps44
    go_upto_region 1 with (fail)
    obtain ⟨W, hW, M⟩ := open1 w (fcells f) 30
    rw [hW]; clear hW
    go_wp2_with (first
      | (refine wpList_load_part rfl 30 _ rfl w.heap.size 0 rfl (fcells f) _ (M.at 0 rfl).whole Tryd.underlying30 rfl (by rw [fcells_size]; exact sizeFd) ?_)
      | (go_at_call 69; refine (implValidFlocks f hf n hn F hF d c _ (T.out.later M.below) (I.out.later M.below)).mono ?_; rintro e W2 ⟨rfl, hb⟩; rw [hok]; have M2 := M.call hb; have hv1 := (S.out.later M2.below).v1))
    go_ret
    exact ⟨rfl, M2.below⟩
  | true =>
    go_enter Tryd.func44, Tryd.ntmps44
    go_upto_region 1 with (fail)
    obtain ⟨W, hW, M⟩ := open1 w (fcells f) 30
    rw [hW]; clear hW
    go_upto_region 3 with (first
      | (refine wpList_load_part rfl 30 _ rfl w.heap.size 0 rfl (fcells f) _ (M.at 0 rfl).whole Tryd.underlying30 rfl (by rw [fcells_size]; exact sizeFd) ?_)
      | (go_at_call 69; refine (implValidFlocks f hf n hn F hF d c _ (T.out.later M.below) (I.out.later M.below)).mono ?_; rintro e W2 ⟨rfl, hb⟩; rw [hok]; have M2 := M.call hb; clear hb))
    have hlit : ∀ i, i < 100 → (Lit.int .i16 ((fun _ => 0 : Nat → Int) i)).wf = true := fun _ _ => (by decide : (Lit.int .i16 0).wf = true)
    obtain ⟨L, hL⟩ := keyLitsRow (P := Tryd.prog) (f := fun _ => (0 : Int)) Tryd.underlying36 Tryd.underlying24 (by kernel_rfl) (by kernel_rfl) hlit 2
    have hfm : (Value.agg (acells .i16 100 (fun _ => 0))).formed Tryd.prog 36 = true := by
      simp only [Value.formed, Tryd.underlying36, acells_size]; kernel_rfl
    have hup := fun (W' : World) (h : W'.heap[W2.heap.size]? = some (.map #[] 0)) => run_update_first (P := Tryd.prog) (dd := 4) (v := .bool true) Tryd.underlying113 h (by kernel_rfl) (by omega) hfm hL ⟨_, Tryd.underlying36⟩
    have hupH := Lib.hid hup
    clear hup hL hfm hlit
    have hm0 : Hid ((W2.alloc (.map #[] 0)).heap[W2.heap.size]? = some (.map #[] 0)) := Lib.hid (look_alloc_new _ _ _ rfl)
    go_wp2_with (go_at_call 70; refine (calmFears_any _).mono ?_; rintro e W4 ⟨rfl, hb⟩; have hu := hupH.out W4 (by rw [hb.block _ (Array.getElem?_eq_some_iff.1 hm0.out).1]; exact hm0.out); have M4 := (M2.other (.map #[] 0)).call hb; clear hb)
    refine wp_loop_rounds 1 ?_
    rw [rounds_succ]
    go_wp2_with fail
    go_ret
    exact ⟨rfl, below_putObj M4.below M2.below.size⟩
end Go.Proofs.YtaioflkonpommaaDoor
