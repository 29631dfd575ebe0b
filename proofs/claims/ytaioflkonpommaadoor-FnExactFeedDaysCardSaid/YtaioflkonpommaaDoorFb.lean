/-
  Feeding all flocks for a day: both sides.
-/
import Derived.Test.YtaioflkonpommaaDoorFaS
import Derived.Test.YtaioflkonpommaaDoorFaI
import Derived.Test.YtaioflkonpommaaDoorSafF
namespace Go.Proofs.YtaioflkonpommaaDoor
open Go Go.ChangeShapes Go.WideShapes Go.ChangeAt Go.RowKit

def faF (f : Fd) (g : Nat → Int) (n : Nat) (F : Nat → Nat → Int) : Fd := if alOk f g n F then fdA f g F n else Fd.zero
def faN (f : Fd) (g : Nat → Int) (n : Nat) (F : Nat → Nat → Int) : Nat := if alOk f g n F then (fdAR f g F n).length else 0
theorem faN_le (f : Fd) (g : Nat → Int) (n : Nat) (F : Nat → Nat → Int) : faN f g n F ≤ 48 := by
  unfold faN
  split
  · rename_i h
    have h1 := fdAR_len f g F n
    have h2 := (al_parts h).2.1
    omega
  · omega
theorem faF_size (f : Fd) (hf : f.Wf) (g : Nat → Int) (n : Nat) (F : Nat → Nat → Int) : (-128 ≤ (faF f g n F).W ∧ (faF f g n F).W ≤ 127) ∧ (-128 ≤ (faF f g n F).H ∧ (faF f g n F).H ≤ 127) := by
  have h1 := hf.W
  have h2 := hf.H
  unfold faF
  split
  · rw [(fdA_size f g F n).1, (fdA_size f g F n).2]; exact ⟨h1, h2⟩
  · exact ⟨⟨by decide, by decide⟩, ⟨by decide, by decide⟩⟩
def FbP (f : Fd) (g : Nat → Int) (n : Nat) (F : Nat → Nat → Int) (w : World) (e : Ending) (w' : World) : Prop :=
  ∃ p c, e = .returned (.tuple #[.agg (fcells (faF f g n F)), .slice p (faN f g n F) c, .int .i64 (alCode f g n F)]) ∧ SV ksVisit w.heap.size w'.heap.size w' p (faN f g n F) (rowsF (fdAR f g F n)) ∧ SW ksVisit 32 w.heap.size w'.heap.size w' p (faN f g n F) ∧ Below w.heap.size w w'
theorem fbP_ok {f : Fd} {g : Nat → Int} {n : Nat} {F : Nat → Nat → Int} {w w' : World} (hok : alOk f g n F = true) {v : Value} {nb : Nat} (ho : w'.ownsRow nb 32 3 v (fdAR f g F n).length (scells ksVisit (fdAR f g F n).length (rowsF (fdAR f g F n))).toList) (hn : w.heap.size ≤ nb) (hb : Below w.heap.size w w') :
    FbP f g n F w (.returned (.tuple #[.agg (fcells (fdA f g F n)), v, .int .i64 0])) w' := by
  have hN : faN f g n F = (fdAR f g F n).length := by unfold faN; rw [hok]; rfl
  have hF : faF f g n F = fdA f g F n := by unfold faF; rw [hok]; rfl
  have hC : alCode f g n F = 0 := by unfold alCode; rw [hok]; rfl
  obtain ⟨p, c, rfl, hS⟩ := Sown (ks := ksVisit) ho
  exact ⟨p, c, by rw [hN, hF, hC], by rw [hN]; exact (hS.weak hn).inS, by rw [hN]; exact (hS.weak hn).sw, hb⟩
theorem fbP_bad {f : Fd} {g : Nat → Int} {n : Nat} {F : Nat → Nat → Int} {w w' : World} (hok : alOk f g n F = false) (p : Option Addr) (c : Nat) (hb : Below w.heap.size w w') : FbP f g n F w (.returned (.tuple #[.agg Tryd.zeroCells30, .slice p 0 c, .int .i64 1])) w' := by
  have hN : faN f g n F = 0 := by unfold faN; rw [hok]; rfl
  have hF : faF f g n F = Fd.zero := by unfold faF; rw [hok]; rfl
  have hC : alCode f g n F = 1 := by unfold alCode; rw [hok]; rfl
  exact ⟨p, c, by rw [hN, hF, hC, zeroFd], by rw [hN]; exact .inl rfl, by rw [hN]; exact .inl rfl, hb⟩

set_option maxRecDepth 100000 in
set_option maxHeartbeats 8000000 in
theorem specFeedAll (f : Fd) (hf : f.Wf) (g : Nat → Int) (hg : Wf16 g) (n : Nat) (hn : n ≤ 2 ^ 40) (F : Nat → Nat → Int) (hF : WfS ksFlock n F) (d cp : Nat) (w : World) (I : InS w d 0 n ksFlock F) : Calls Tryd.prog 22 #[.agg (fcells f), .agg (acells .i16 100 g), .slice (some ⟨d, 0, none⟩) n cp] w (FbP f g n F w) := by
  have hz : Hid (Tryd.zeroCells30.size = 202) := Lib.hid (by rw [zeroFd, fcells_size])
  have hz1 : Hid (Tryd.zeroCells30.all (·.oneCell') = true) := Lib.hid (by rw [zeroFd]; exact fcells_one _)
  have HI := Lib.hid I
  have HAL := Lib.hid (fun (b c : Nat) (w : World) B G I => l02All_any f hf g hg n hn F hF b c d cp w B G I)
  clear I
  cases hok : alOk f g n F with
  | false =>
    have hcode : alCode f g n F = 1 := by unfold alCode; rw [hok]; rfl
    have HC := Lib.hid hcode
    have HOK := Lib.hid hok
    clear hok hcode
    go_enter Tryd.func22, Tryd.ntmps22
    go_upto_region 1 with (fail)
    obtain ⟨W, hW, M⟩ := open3 w (fcells f) 30 (acells .i16 100 g) 36 Tryd.zeroCells30 30
    rw [hW]; clear hW
    have M2 := M.alloc #[] 32
    go_wp2_with (first
      | (go_at_call 53; refine (HAL.out w.heap.size (w.heap.size + 1) _ (M.at 0 rfl) (M.at 1 rfl) (HI.out.later M.below)).mono ?_; rintro e w1 ⟨rfl, rfl⟩; rw [HC.out])
      | (refine wpList_store_row rfl 30 _ _ rfl (w.heap.size + 1 + 1) Tryd.zeroCells30 rfl rfl 30 _ (M2.at 2 rfl) (by rw [hz.out]; exact sizeFd) (by rw [hz.out]) hz1.out ?_; have MX := M2.row 2 rfl Tryd.zeroCells30; clear M2))
    refine bodyPost_ret (results_row_tmp2 rfl _ _ (w.heap.size + 1 + 1) 30 _ _ _ rfl (MX.at 2 rfl) Tryd.underlying30 rfl (by rw [hz.out]; exact sizeFd)) rfl ?_
    exact fbP_bad HOK.out _ _ MX.below
  | true =>
    have hcode : alCode f g n F = 0 := by unfold alCode; rw [hok]; rfl
    have HC := Lib.hid hcode
    have HOK := Lib.hid hok
    obtain ⟨hfo, hn12, hFo⟩ := al_parts hok
    have HFE := Lib.hid (fun (c : Nat) (w : World) G I => l02Day_any f hf hfo g hg n hn12 F hF hFo c d cp w G I)
    obtain ⟨FF, hFF⟩ : ∃ FF, fdA f g F n = FF := ⟨_, rfl⟩
    have HFF := Lib.hid hFF
    have HFP : Hid (∀ (w : World) (e : Ending) (w' : World), FaP f g F n w e w' → ∃ v, e = .returned (.tuple #[.agg (fcells FF), v]) ∧ w'.ownsRow w.heap.size 32 3 v (fdAR f g F n).length (scells ksVisit (fdAR f g F n).length (rowsF (fdAR f g F n))).toList ∧ Below w.heap.size w w') := Lib.hid (fun w e w' h => by obtain ⟨v, h1, h2, h3⟩ := h; exact ⟨v, by rw [h1, hFF], h2, h3⟩)
    clear hFF
    clear hok hcode hfo hFo
    go_enter Tryd.func22, Tryd.ntmps22
    go_upto_region 1 with (fail)
    obtain ⟨W, hW, M⟩ := open3 w (fcells f) 30 (acells .i16 100 g) 36 Tryd.zeroCells30 30
    rw [hW]; clear hW
    go_wp2_with (first
      | (go_at_call 53; refine (HAL.out w.heap.size (w.heap.size + 1) _ (M.at 0 rfl) (M.at 1 rfl) (HI.out.later M.below)).mono ?_; rintro e w1 ⟨rfl, rfl⟩; rw [HC.out])
      | (refine wpList_load_part rfl 30 _ rfl w.heap.size 0 rfl (fcells f) _ (M.at 0 rfl).whole Tryd.underlying30 rfl (by rw [fcells_size]; exact sizeFd) ?_)
      | (go_at_call 54; refine (HFE.out _ _ (M.at 1 rfl) (HI.out.later M.below)).mono (fun e w' h => HFP.out _ e w' h) |>.mono ?_; rintro e W3 ⟨v, rfl, ho, hb⟩; have hlt := (M.at 2 rfl).lt; have MA := (M.call hb).alloc Tryd.zeroCells30 30; clear hb)
      | (refine wpList_store_row rfl 30 _ _ rfl W3.heap.size (fcells FF) rfl rfl 30 _ (MA.at 3 rfl) (by rw [fcells_size]; exact sizeFd) (by rw [hz.out, fcells_size]) (fcells_one _) ?_; have MB := MA.row 3 rfl (fcells FF); have OB := own_later ho (below_row ((Below.refl W3.heap.size W3).alloc (Nat.le_refl _) (.cells Tryd.zeroCells30 30)) (Nat.le_refl _) (fcells FF)); clear MA ho)
      | (refine wpList_load_part rfl 30 _ rfl W3.heap.size 0 rfl (fcells FF) _ (MB.at 3 rfl).whole Tryd.underlying30 rfl (by rw [fcells_size]; exact sizeFd) ?_)
      | (refine wpList_store_row rfl 30 _ _ rfl (w.heap.size + 1 + 1) (fcells FF) rfl rfl 30 _ (MB.at 2 rfl) (by rw [fcells_size]; exact sizeFd) (by rw [hz.out, fcells_size]) (fcells_one _) ?_; have MC := MB.row 2 rfl (fcells FF); have OC := own_row OB hlt (fcells FF); clear MB OB))
    generalize World.setRow _ _ _ = V9 at MC OC ⊢
    refine bodyPost_ret (results_row_tmp2 rfl _ _ (w.heap.size + 1 + 1) 30 _ _ _ rfl (MC.at 2 rfl) Tryd.underlying30 rfl (by rw [fcells_size]; exact sizeFd)) rfl ?_
    rw [← HFF.out]
    exact fbP_ok HOK.out OC (by omega) MC.below
set_option maxRecDepth 100000 in
set_option maxHeartbeats 8000000 in
theorem implFeedAll (f : Fd) (hf : f.Wf) (g : Nat → Int) (hg : Wf16 g) (n : Nat) (hn : n ≤ 2 ^ 40) (F : Nat → Nat → Int) (hF : WfS ksFlock n F) (d cp : Nat) (A : Nat → Addr) (w : World) (T0 : TabAt w) (S0 : Sents w A) (I : InS w d 0 n ksFlock F) : Calls Tryd.prog 24 #[.agg (fcells f), .agg (acells .i16 100 g), .slice (some ⟨d, 0, none⟩) n cp] w (FbP f g n F w) := by
  have S := Lib.hid S0
  have T := Lib.hid T0
  have HI := Lib.hid I
  clear S0 T0 I
  have hif := isIfaceErr
  have hz : Hid (Tryd.zeroCells30.size = 202) := Lib.hid (by rw [zeroFd, fcells_size])
  have hz1 : Hid (Tryd.zeroCells30.all (·.oneCell') = true) := Lib.hid (by rw [zeroFd]; exact fcells_one _)
  have HCB := Lib.hid (fun (eb : Nat) (w : World) T S I E => checkBirds1 f hf n hn F hF g hg A d cp eb 36 w T S I E)
  cases hok : alOk f g n F with
  | false =>
    have HOK := Lib.hid hok
    clear hok
    go_enter Tryd.func24, Tryd.ntmps24
    go_upto_region 1 with (fail)
    obtain ⟨W, hW, M⟩ := open3 w (fcells f) 30 (acells .i16 100 g) 36 Tryd.zeroCells30 30
    rw [hW]; clear hW
    have oa1 : True := trivial
    have oa2 : True := trivial
    have oa3 : True := trivial
    go_wp2_with (first
      | (clear oa1; refine wpList_load_part rfl 30 _ rfl w.heap.size 0 rfl (fcells f) _ (M.at 0 rfl).whole Tryd.underlying30 rfl (by rw [fcells_size]; exact sizeFd) ?_)
      | (clear oa2; refine wpList_load_part rfl 36 _ rfl (w.heap.size + 1) 0 rfl (acells .i16 100 g) _ (M.at 1 rfl).whole Tryd.underlying36 rfl (by rw [acells_size]; exact sizeE) ?_)
      | (clear oa3; refine wpList_buildRow rfl 110 36 _ rfl (acells .i16 100 g) rfl Tryd.underlying110 (by rw [acells_size]; exact sizeE) (by rw [acells_size]; kernel_rfl) (by rw [acells_size]; omega) (by rw [acells_size]; omega) ?_; have MB0 := M.alloc (acells .i16 100 g) 36)
      | (go_at_call 44; refine (HCB.out W.heap.size _ (T.out.later MB0.below) (S.out.later MB0.below) (HI.out.later MB0.below) (MB0.at 3 rfl)).mono ?_; rintro e W2 ⟨rfl, hb⟩; rw [okBirdsL, HOK.out]; simp only [errIf, Bool.false_eq_true, if_false, if_true]; have M2 := MB0.call hb; clear hb MB0)
      | (go_at_call 45; refine (codeOf_err A 1 (by omega) (by omega) _ (S.out.later M2.below)).mono ?_; rintro e W9 ⟨rfl, rfl⟩)
      | (refine wpList_store_row rfl 30 _ _ rfl (w.heap.size + 1 + 1) Tryd.zeroCells30 rfl rfl 30 _ (M2.at 2 rfl) (by rw [hz.out]; exact sizeFd) (by rw [hz.out]) hz1.out ?_; have MX := M2.row 2 rfl Tryd.zeroCells30; clear M2))
    refine bodyPost_ret (results_row_tmp2 rfl _ _ (w.heap.size + 1 + 1) 30 _ _ _ rfl (MX.at 2 rfl) Tryd.underlying30 rfl (by rw [hz.out]; exact sizeFd)) rfl ?_
    exact fbP_bad HOK.out _ _ MX.below
  | true =>
    have HOK := Lib.hid hok
    obtain ⟨hfo, hn12, hFo⟩ := al_parts hok
    have HFE := Lib.hid (fun (w : World) S I => fedAll_any f hf hfo g hg n hn12 F hF hFo d cp A w S I)
    obtain ⟨FF, hFF⟩ : ∃ FF, fdA f g F n = FF := ⟨_, rfl⟩
    have HFF := Lib.hid hFF
    have HFP : Hid (∀ (w : World) (e : Ending) (w' : World), FaP f g F n w e w' → ∃ v, e = .returned (.tuple #[.agg (fcells FF), v]) ∧ w'.ownsRow w.heap.size 32 3 v (fdAR f g F n).length (scells ksVisit (fdAR f g F n).length (rowsF (fdAR f g F n))).toList ∧ Below w.heap.size w w') := Lib.hid (fun w e w' h => by obtain ⟨v, h1, h2, h3⟩ := h; exact ⟨v, by rw [h1, hFF], h2, h3⟩)
    clear hFF
    clear hok hfo hFo
    go_enter Tryd.func24, Tryd.ntmps24
    go_upto_region 1 with (fail)
    obtain ⟨W, hW, M⟩ := open3 w (fcells f) 30 (acells .i16 100 g) 36 Tryd.zeroCells30 30
    rw [hW]; clear hW
    have ok1 : True := trivial
    have ok2 : True := trivial
    have oa1 : True := trivial
    have oa2 : True := trivial
    have oa3 : True := trivial
    go_wp2_with (first
      | (clear oa1; refine wpList_load_part rfl 30 _ rfl w.heap.size 0 rfl (fcells f) _ (M.at 0 rfl).whole Tryd.underlying30 rfl (by rw [fcells_size]; exact sizeFd) ?_)
      | (clear oa2; refine wpList_load_part rfl 36 _ rfl (w.heap.size + 1) 0 rfl (acells .i16 100 g) _ (M.at 1 rfl).whole Tryd.underlying36 rfl (by rw [acells_size]; exact sizeE) ?_)
      | (clear oa3; refine wpList_buildRow rfl 110 36 _ rfl (acells .i16 100 g) rfl Tryd.underlying110 (by rw [acells_size]; exact sizeE) (by rw [acells_size]; kernel_rfl) (by rw [acells_size]; omega) (by rw [acells_size]; omega) ?_; have MB0 := M.alloc (acells .i16 100 g) 36)
      | (go_at_call 44; refine (HCB.out W.heap.size _ (T.out.later MB0.below) (S.out.later MB0.below) (HI.out.later MB0.below) (MB0.at 3 rfl)).mono ?_; rintro e W2 ⟨rfl, hb⟩; rw [okBirdsL, HOK.out]; simp only [errIf, Bool.false_eq_true, if_false, if_true]; have M2 := MB0.call hb; clear hb MB0)
      | (clear ok1; refine wpList_load_part rfl 30 _ rfl w.heap.size 0 rfl (fcells f) _ (M2.at 0 rfl).whole Tryd.underlying30 rfl (by rw [fcells_size]; exact sizeFd) ?_)
      | (clear ok2; refine wpList_load_part rfl 36 _ rfl (w.heap.size + 1) 0 rfl (acells .i16 100 g) _ (M2.at 1 rfl).whole Tryd.underlying36 rfl (by rw [acells_size]; exact sizeE) ?_)
      | (go_at_call 55; refine (HFE.out _ (S.out.later M2.below) (HI.out.later M2.below)).mono (fun e w' h => HFP.out _ e w' h) |>.mono ?_; rintro e W3 ⟨v, rfl, ho, hb⟩; have hlt := (M2.at 2 rfl).lt; have MA := (M2.call hb).alloc Tryd.zeroCells30 30; clear hb)
      | (refine wpList_store_row rfl 30 _ _ rfl W3.heap.size (fcells FF) rfl rfl 30 _ (MA.at 4 rfl) (by rw [fcells_size]; exact sizeFd) (by rw [hz.out, fcells_size]) (fcells_one _) ?_; have MB := MA.row 4 rfl (fcells FF); have OB := own_later ho (below_row ((Below.refl W3.heap.size W3).alloc (Nat.le_refl _) (.cells Tryd.zeroCells30 30)) (Nat.le_refl _) (fcells FF)); clear MA ho)
      | (refine wpList_load_part rfl 30 _ rfl W3.heap.size 0 rfl (fcells FF) _ (MB.at 4 rfl).whole Tryd.underlying30 rfl (by rw [fcells_size]; exact sizeFd) ?_)
      | (refine wpList_store_row rfl 30 _ _ rfl (w.heap.size + 1 + 1) (fcells FF) rfl rfl 30 _ (MB.at 2 rfl) (by rw [fcells_size]; exact sizeFd) (by rw [hz.out, fcells_size]) (fcells_one _) ?_; have MC := MB.row 2 rfl (fcells FF); have OC := own_row OB hlt (fcells FF); clear MB OB))
    generalize World.setRow _ _ _ = V9 at MC OC ⊢
    refine bodyPost_ret (results_row_tmp2 rfl _ _ (w.heap.size + 1 + 1) 30 _ _ _ rfl (MC.at 2 rfl) Tryd.underlying30 rfl (by rw [fcells_size]; exact sizeFd)) rfl ?_
    rw [← HFF.out]
    exact fbP_ok HOK.out OC (by omega) MC.below
end Go.Proofs.YtaioflkonpommaaDoor