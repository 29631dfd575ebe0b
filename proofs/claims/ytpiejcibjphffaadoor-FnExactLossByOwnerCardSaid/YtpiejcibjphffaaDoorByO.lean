/-
  LossByOwner: the model's, the program's.
-/
import Derived.Test.YtpiejcibjphffaaDoorByI
import Derived.Test.YtpiejcibjphffaaDoorLstN
namespace Go.Proofs.YtpiejcibjphffaaDoor
open Go Go.RowKit Go.Shelf
attribute [local go_sem] Oper.semAt_some

def byLen (f g : Fd) (o : Nat → Int) : Nat := if ownedCode f g o = 0 then 10 else 0
theorem byLen_le (f g : Fd) (o : Nat → Int) : byLen f g o ≤ 10 := by unfold byLen; split <;> omega
theorem NV_of {lo hi : Nat} {w : World} {b n : Nat} {g : Nat → Int} (h1 : lo ≤ b) (h2 : b < hi) (B : Blk w b (acells .i64 n g) 2) : NV lo hi w (some ⟨b, 0, none⟩) n g :=
  .inr ⟨b, 0, rfl, h1, h2, fun i hi => by rw [Nat.zero_add]; exact B.cell (acells_get _ _ _ i hi)⟩
theorem NW_of {lo hi : Nat} {w : World} {b n : Nat} {g : Nat → Int} (h1 : lo ≤ b) (h2 : b < hi) (B : Blk w b (acells .i64 n g) 2) : NW lo hi w (some ⟨b, 0, none⟩) n :=
  .inr ⟨b, 0, _, rfl, h1, h2, by rw [acells_size]; omega, B⟩
set_option maxRecDepth 100000 in
set_option maxHeartbeats 8000000 in
theorem specLossByOwner (f g : Fd) (hf : f.Wf) (hg : g.Wf) (o : Nat → Int) (ho : WfO o) (w : World) : Calls Tryd.prog 22 #[.agg (fcells f), .agg (fcells g), .agg (acells .i8 100 o)] w fun e w' => ∃ p c, e = .returned (.tuple #[.slice p (byLen f g o) c, .int .i64 (ownedCode f g o)]) ∧ NV w.heap.size w'.heap.size w' p (byLen f g o) (byTo f g o 100) ∧ Below w.heap.size w w' := by
  by_cases h0 : ownedCode f g o = 0
  · have hn : byLen f g o = 10 := if_pos h0
    rw [hn, h0]
    have H0 := Lib.hid h0
    obtain ⟨hfit, hp⟩ := ownedCode_fine h0
    obtain ⟨h1, h2, _, _⟩ := pairCode_fine hp
    clear h0 hn hp
    go_enter Tryd.func22, Tryd.ntmps22
    go_upto_region 1 with (fail)
    obtain ⟨W, hW, M⟩ := open3 w (fcells f) 30 (fcells g) 30 (acells .i8 100 o) 44
    rw [hW]; clear hW
    go_wp2_with (first
      | (go_at_call 51; refine (l06Owned_any f g hf hg o ho _ _ _ _ (M.at 0 rfl) (M.at 1 rfl) (M.at 2 rfl)).mono ?_; rintro e W2 ⟨rfl, hb⟩; rw [H0.out]; have M2 := M.call hb; clear hb)
      | (go_at_call 52; refine (l06ByOwner_any f g h1 h2 o hfit _ _ _ _ (M2.at 0 rfl) (M2.at 1 rfl) (M2.at 2 rfl)).mono ?_; rintro e W3 ⟨bs, rfl, hle, hB, hb3⟩; have M3 := M2.call hb3; clear hb3))
    go_ret2
    exact ⟨_, _, rfl, NV_of (Nat.le_trans M2.below.size hle) hB.lt hB, M3.below⟩
  · have hn : byLen f g o = 0 := if_neg h0
    rw [hn]
    have hne2 : (ownedCode f g o != 0) = true := by simpa using h0
    clear hn
    go_enter Tryd.func22, Tryd.ntmps22
    go_upto_region 1 with (fail)
    obtain ⟨W, hW, M⟩ := open3 w (fcells f) 30 (fcells g) 30 (acells .i8 100 o) 44
    rw [hW]; clear hW
    go_wp2_with (go_at_call 51; refine (l06Owned_any f g hf hg o ho _ _ _ _ (M.at 0 rfl) (M.at 1 rfl) (M.at 2 rfl)).mono ?_; rintro e W2 ⟨rfl, hb⟩; have M2 := M.call hb; clear hb)
    go_ret2
    exact ⟨_, _, rfl, .inl rfl, (M2.alloc #[] 2).below⟩
set_option maxRecDepth 100000 in
set_option maxHeartbeats 8000000 in
theorem implLossByOwner (f g : Fd) (hf : f.Wf) (hg : g.Wf) (o : Nat → Int) (ho : WfO o) (A : Nat → Addr) (w : World) (S0 : Sents w A) : Calls Tryd.prog 23 #[.agg (fcells f), .agg (fcells g), .agg (acells .i8 100 o)] w fun e w' => ∃ p c, e = .returned (.tuple #[.slice p (byLen f g o) c, .int .i64 (ownedCode f g o)]) ∧ NV w.heap.size w'.heap.size w' p (byLen f g o) (byTo f g o 100) ∧ NW w.heap.size w'.heap.size w' p (byLen f g o) ∧ Below w.heap.size w w' := by
  have S := Lib.hid S0
  clear S0
  have hif := isIfaceErr
  by_cases h0 : ownedCode f g o = 0
  · have hn : byLen f g o = 10 := if_pos h0
    rw [hn, h0]
    have H0 := Lib.hid h0
    obtain ⟨hfit, hp⟩ := ownedCode_fine h0
    obtain ⟨h1, h2, _, _⟩ := pairCode_fine hp
    clear h0 hn hp
    go_enter Tryd.func23, Tryd.ntmps23
    go_upto_region 1 with (fail)
    obtain ⟨W, hW, M⟩ := open3 w (fcells f) 30 (fcells g) 30 (acells .i8 100 o) 44
    rw [hW]; clear hW
    have ok1 : True := trivial
    have ok2 : True := trivial
    have hzp : Hid (Tryd.zeroCells67.size = 404) := Lib.hid (by rw [zeroP, pcells_size])
    go_upto_region 2 with (first
      | (clear ok1; (refine wpList_load_part rfl 30 _ rfl w.heap.size 0 rfl (fcells f) _ (M.at 0 rfl).whole Tryd.underlying30 rfl (by rw [fcells_size]; exact sizeFd) ?_))
      | (clear ok2; (refine wpList_load_part rfl 30 _ rfl (w.heap.size + 1) 0 rfl (fcells g) _ (M.at 1 rfl).whole Tryd.underlying30 rfl (by rw [fcells_size]; exact sizeFd) ?_))
      | (refine wpList_load_part rfl 44 _ rfl (w.heap.size + 1 + 1) 0 rfl (acells .i8 100 o) _ (M.at 2 rfl).whole Tryd.underlying44 rfl (by rw [acells_size]; exact sizeOw) ?_)
      | (refine wpList_buildRow rfl 98 44 _ rfl (acells .i8 100 o) rfl Tryd.underlying98 (by rw [acells_size]; exact sizeOw) (by rw [acells_size]; kernel_rfl) (by rw [acells_size]; omega) (by rw [acells_size]; omega) ?_)
      | (go_at_call 36; refine (pairOf1_fine f g hf hg o ho H0.out _ A _ (Blk.new _ _ _) (S.out.later (M.alloc _ _).below)).mono ?_; rintro e W2 ⟨rfl, hb⟩; have M2 := (M.alloc (acells .i8 100 o) 44).call hb; clear hb; have M3 := M2.alloc Tryd.zeroCells67 67)
      | (refine wpList_store_row rfl 67 _ _ rfl W2.heap.size (pcells f g) rfl rfl 67 _ (M3.at 4 rfl) (by rw [pcells_size]; exact sizeP) (by rw [pcells_size, hzp.out]) (pcells_one _ _) ?_))
    have M4 := M3.row 4 rfl (pcells f g)
    clear M M2 M3
    generalize World.setRow _ _ _ = W4 at M4 ⊢
    obtain ⟨b6, hb6⟩ : ∃ b6, b6 = W2.heap.size := ⟨_, rfl⟩
    rw [← hb6] at M4 ⊢
    clear hb6 hzp
    go_wp2_with (first
      | (refine wpList_load_part rfl 67 _ rfl b6 0 rfl (pcells f g) _ (M4.at 4 rfl).whole Tryd.underlying67 rfl (by rw [pcells_size]; exact sizeP) ?_)
      | (refine wpList_load_part rfl 44 _ rfl (w.heap.size + 1 + 1) 0 rfl (acells .i8 100 o) _ (M4.at 2 rfl).whole Tryd.underlying44 rfl (by rw [acells_size]; exact sizeOw) ?_)
      | (go_at_call 53; refine (lossBy_any f g hf hg h1 h2 o ho hfit _).mono ?_; rintro e W5 ⟨bs, rfl, hle, hB, hb5⟩; have M5 := M4.call hb5; clear hb5))
    go_ret2
    exact ⟨_, _, rfl, NV_of (Nat.le_trans M4.below.size hle) hB.lt hB, NW_of (Nat.le_trans M4.below.size hle) hB.lt hB, M5.below⟩
  · have hn : byLen f g o = 0 := if_neg h0
    rw [hn]
    obtain ⟨et, ev, hcall, hcode⟩ := pairOf1_err f g hf hg o ho h0
    clear h0 hn
    go_enter Tryd.func23, Tryd.ntmps23
    go_upto_region 1 with (fail)
    obtain ⟨W, hW, M⟩ := open3 w (fcells f) 30 (fcells g) 30 (acells .i8 100 o) 44
    rw [hW]; clear hW
    have ok1 : True := trivial
    have ok2 : True := trivial
    have hzp : Hid (Tryd.zeroCells67.size = 404) := Lib.hid (by rw [zeroP, pcells_size])
    go_upto_region 2 with (first
      | (clear ok1; (refine wpList_load_part rfl 30 _ rfl w.heap.size 0 rfl (fcells f) _ (M.at 0 rfl).whole Tryd.underlying30 rfl (by rw [fcells_size]; exact sizeFd) ?_))
      | (clear ok2; (refine wpList_load_part rfl 30 _ rfl (w.heap.size + 1) 0 rfl (fcells g) _ (M.at 1 rfl).whole Tryd.underlying30 rfl (by rw [fcells_size]; exact sizeFd) ?_))
      | (refine wpList_load_part rfl 44 _ rfl (w.heap.size + 1 + 1) 0 rfl (acells .i8 100 o) _ (M.at 2 rfl).whole Tryd.underlying44 rfl (by rw [acells_size]; exact sizeOw) ?_)
      | (refine wpList_buildRow rfl 98 44 _ rfl (acells .i8 100 o) rfl Tryd.underlying98 (by rw [acells_size]; exact sizeOw) (by rw [acells_size]; kernel_rfl) (by rw [acells_size]; omega) (by rw [acells_size]; omega) ?_)
      | (go_at_call 36; refine (hcall A _ _ (Blk.new _ _ _) (S.out.later (M.alloc _ _).below)).mono ?_; rintro e W2 ⟨rfl, hb⟩; have M2 := (M.alloc (acells .i8 100 o) 44).call hb; clear hb; have M3 := M2.alloc Tryd.zeroCells67 67)
      | (refine wpList_store_row rfl 67 _ _ rfl W2.heap.size (pcells Fd.zero Fd.zero) rfl rfl 67 _ (M3.at 4 rfl) (by rw [pcells_size]; exact sizeP) (by rw [pcells_size, hzp.out]) (pcells_one _ _) ?_))
    have M4 := M3.row 4 rfl (pcells Fd.zero Fd.zero)
    clear M M2 M3
    generalize World.setRow _ _ _ = W4 at M4 ⊢
    obtain ⟨b6, hb6⟩ : ∃ b6, b6 = W2.heap.size := ⟨_, rfl⟩
    rw [← hb6] at M4 ⊢
    clear hb6 hzp
    go_wp2_with (go_at_call 37; refine (hcode A _ (S.out.later M4.below)).mono ?_; rintro e W5 ⟨rfl, hb⟩; have M5 := M4.call hb; clear hb)
    go_ret2
    exact ⟨_, _, rfl, .inl rfl, .inl rfl, M5.below⟩
end Go.Proofs.YtpiejcibjphffaaDoor
