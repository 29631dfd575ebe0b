/-
  Which cell a flock chooses: the model's answer.
-/
import Derived.Test.YtaccpnpoeikaaaaDoorChS
namespace Go.Proofs.YtaccpnpoeikaaaaDoor
open Go Go.RowKit

def chCode (f : Fd) (g a : Nat → Int) : Int := if ffOk f g a then (if (mealsR f g a 100).length = 0 then 6 else 0) else 1
def chVal (f : Fd) (g a : Nat → Int) : Int := if chCode f g a = 0 then bL (a 5) (mealsR f g a 100) 0 else 0
theorem flock_taste {f : Fd} {a : Nat → Int} (h : flockOk f a = true) : 0 ≤ a 5 ∧ a 5 ≤ 2 := by
  unfold flockOk plainOk at h
  simp only [Bool.and_eq_true, inB_iff] at h
  exact h.1.2
set_option maxRecDepth 100000 in
set_option maxHeartbeats 4000000 in
theorem specChoiceOf (f : Fd) (hf : f.Wf) (g : Nat → Int) (hg : Wf16 g) (a : Nat → Int) (ha : WfR a) (w : World) :
    Calls Tryd.prog 18 #[.agg (fcells f), .agg (acells .i16 100 g), vFlock a] w fun e w' => e = .returned (.tuple #[.int .i64 (chVal f g a), .int .i64 (chCode f g a)]) ∧ Below w.heap.size w w' := by
  cases hok : ffOk f g a with
  | false =>
    have hcode : ffCode f g a = 1 := by unfold ffCode; rw [hok]; rfl
    have hcc : chCode f g a = 1 := by unfold chCode; rw [hok]; rfl
    have hv : chVal f g a = 0 := by unfold chVal; rw [hcc, if_neg (by decide)]
    have HC := Lib.hid hcode
    rw [hv, hcc]
    clear hok hcode hcc hv
    go_enter Tryd.func18, Tryd.ntmps18
    go_upto_region 1 with (fail)
    obtain ⟨W, hW, M⟩ := open3 w (fcells f) 35 (acells .i16 100 g) 37 (flc a) 39
    unfold flc at hW
    rw [hW]; clear hW
    go_wp2_with (go_at_call 24; refine (l02Asked_any f hf g hg a ha w.heap.size (w.heap.size + 1) (w.heap.size + 1 + 1) 0 _ (M.at 0 rfl) (M.at 1 rfl) (flc_at (M.at 2 rfl))).mono ?_; rintro e w1 ⟨rfl, rfl⟩; rw [HC.out])
    go_ret2
    exact ⟨rfl, M.below⟩
  | true =>
    have hcode : ffCode f g a = 0 := by unfold ffCode; rw [hok]; rfl
    have HC := Lib.hid hcode
    have h0 := flock_tree (ff_okF hok).2.1
    have h5 := flock_taste (ff_okF hok).2.1
    have HLC := Lib.hid (fun (b c d o : Nat) (w : World) B G H => l02Choice_any f hf g hg a ha h0 h5 b c d o w B G H)
    by_cases hlen : (mealsR f g a 100).length = 0
    · have hcc : chCode f g a = 6 := by unfold chCode; rw [hok, if_pos rfl, if_pos hlen]
      have hv : chVal f g a = 0 := by unfold chVal; rw [hcc, if_neg (by decide)]
      have hch : chcV (a 5) (mealsR f g a 100) = -1 := by unfold chcV; rw [if_pos hlen]
      rw [hch] at HLC
      rw [hv, hcc]
      clear hok hcode hcc hv hch hlen h0 h5
      go_enter Tryd.func18, Tryd.ntmps18
      go_upto_region 1 with (fail)
      obtain ⟨W, hW, M⟩ := open3 w (fcells f) 35 (acells .i16 100 g) 37 (flc a) 39
      unfold flc at hW
      rw [hW]; clear hW
      go_wp2_with (first
        | (go_at_call 24; refine (l02Asked_any f hf g hg a ha w.heap.size (w.heap.size + 1) (w.heap.size + 1 + 1) 0 _ (M.at 0 rfl) (M.at 1 rfl) (flc_at (M.at 2 rfl))).mono ?_; rintro e w1 ⟨rfl, rfl⟩; rw [HC.out])
        | (go_at_call 38; refine (HLC.out _ _ _ 0 _ (M.at 0 rfl) (M.at 1 rfl) (flc_at (M.at 2 rfl))).mono ?_; rintro e W2 ⟨rfl, hb⟩; have M2 := M.call hb; clear hb))
      go_ret2
      exact ⟨rfl, M2.below⟩
    · have hcc : chCode f g a = 0 := by unfold chCode; rw [hok, if_pos rfl, if_neg hlen]
      have hv : chVal f g a = bL (a 5) (mealsR f g a 100) 0 := by unfold chVal; rw [hcc, if_pos rfl]
      have hch : chcV (a 5) (mealsR f g a 100) = bL (a 5) (mealsR f g a 100) 0 := by unfold chcV; rw [if_neg hlen]
      obtain ⟨i9, hi9, hb9⟩ := bL_mem (a 5) hlen
      obtain ⟨c9, hc9, _, hrow⟩ := meals_in f g a 100 (Nat.le_refl _) i9 hi9
      have hcv : bL (a 5) (mealsR f g a 100) 0 = (c9 : Int) := by rw [hb9, hrow 0]; rfl
      rw [hch, hcv] at HLC
      rw [hv, hcc, hcv]
      clear hok hcode hcc hv hch hlen h0 h5 hi9 hb9 hrow hcv
      go_enter Tryd.func18, Tryd.ntmps18
      go_upto_region 1 with (fail)
      obtain ⟨W, hW, M⟩ := open3 w (fcells f) 35 (acells .i16 100 g) 37 (flc a) 39
      unfold flc at hW
      rw [hW]; clear hW
      go_wp2_with (first
        | (go_at_call 24; refine (l02Asked_any f hf g hg a ha w.heap.size (w.heap.size + 1) (w.heap.size + 1 + 1) 0 _ (M.at 0 rfl) (M.at 1 rfl) (flc_at (M.at 2 rfl))).mono ?_; rintro e w1 ⟨rfl, rfl⟩; rw [HC.out])
        | (go_at_call 38; refine (HLC.out _ _ _ 0 _ (M.at 0 rfl) (M.at 1 rfl) (flc_at (M.at 2 rfl))).mono ?_; rintro e W2 ⟨rfl, hb⟩; have M2 := M.call hb; clear hb))
      go_ret2
      exact ⟨rfl, M2.below⟩
end Go.Proofs.YtaccpnpoeikaaaaDoor
