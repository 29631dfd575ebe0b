/-
  Holes that are targets under a net: the model's, the program's.
  What nets cover, but for holes: the model's, the program's.
-/
import Derived.Test.YtkhhkacmfkipgaaDoorTgtM
namespace Go.Proofs.YtkhhkacmfkipgaaDoor
section
open Go Go.RowKit

theorem open4 (w : World) (c1 : Array Value) (t1 : TypeId) (c2 : Array Value) (t2 : TypeId) (c3 : Array Value) (t3 : TypeId) (c4 : Array Value) (t4 : TypeId) :
    ∃ W, (((w.alloc (.cells c1 t1)).alloc (.cells c2 t2)).alloc (.cells c3 t3)).alloc (.cells c4 t4) = W ∧ Mem w W [⟨w.heap.size, c1, t1⟩, ⟨w.heap.size + 1, c2, t2⟩, ⟨w.heap.size + 1 + 1, c3, t3⟩, ⟨w.heap.size + 1 + 1 + 1, c4, t4⟩] := by
  have h := ((((Mem.nil w).alloc c1 t1).alloc c2 t2).alloc c3 t3).alloc c4 t4
  simp only [World.size_alloc, List.nil_append, List.cons_append] at h
  exact ⟨_, rfl, h⟩

end
section
open Go Go.RowKit


set_option maxRecDepth 100000 in
set_option maxHeartbeats 4000000 in
theorem specWithHoles (f : Fd) (hf : f.Wf) (n : Nat) (hn : n ≤ 2 ^ 40) (F : Nat → Nat → Int) (hF : ∀ i, i < n → WfN (F i)) (g : Nat → Int) (hgU : U64 g) (b o c : Nat) (w : World) (I : InS w b o n ksNet F) :
    Calls Tryd.prog 29 #[.agg (fcells f), .slice (some ⟨b, o, none⟩) n c, .agg (acells .u64 2 (g))] w fun e w' => e = .returned (.tuple #[.agg (acells .u64 2 (ans (netsCode f n F) (joinC .andNot (cov F n) g))), .int .i64 (netsCode f n F)]) ∧ Below w.heap.size w w' := by
  have HI := Lib.hid I
  clear I
  have bad : ∀ code : Int, netsCode f n F = code → code ≠ 0 → Calls Tryd.prog 29 #[.agg (fcells f), .slice (some ⟨b, o, none⟩) n c, .agg (acells .u64 2 (g))] w fun e w' => e = .returned (.tuple #[.agg (acells .u64 2 (fun _ => 0)), .int .i64 code]) ∧ Below w.heap.size w w' := by
    intro code hcode hne
    have hc := Lib.hid hcode
    have hne2 : (code != 0) = true := by simpa using hne
    clear hcode
    go_enter Tryd.func29, Tryd.ntmps29
    go_upto_region 1 with (fail)
    rw [zero2]
    obtain ⟨W, hW, M⟩ := open3 w (fcells f) 32 (acells .u64 2 (g)) 39 (acells .u64 2 (fun _ => 0)) 39
    rw [hW]; clear hW
    go_wp2_with (first
      | (go_at_call 40; refine (l04Nets_some f hf n hn F hF b o c w.heap.size _ (M.at 0 rfl) (HI.out.later M.below)).mono ?_; rintro e W2 ⟨rfl, hb⟩; rw [hc.out]; have M2 := M.call hb)
      | (refine wpList_store_row rfl 39 _ _ rfl (w.heap.size + 1 + 1) (acells .u64 2 (fun _ => 0)) rfl rfl 39 _ (M2.at 2 rfl) (by rw [acells_size]; exact sizeC) (by simp only [acells_size]) (acells_one _ _ _) ?_))
    have M3 := M2.row 2 rfl (acells .u64 2 (fun _ => 0))
    exact bodyPost_ret (results_row_tmp rfl _ _ (w.heap.size + 1 + 1) 39 _ _ _ rfl (M3.at 2 rfl) Tryd.underlying39 rfl (by rw [acells_size]; exact sizeC)) rfl ⟨rfl, M3.below⟩
  by_cases hc0 : netsCode f n F = 0
  · obtain ⟨hok, hns, _⟩ := code_0 hc0
    have hfits := code_fits hok hns
    rw [hc0, ans_0]
    have hc := Lib.hid hc0
    clear bad hc0
    go_enter Tryd.func29, Tryd.ntmps29
    go_upto_region 1 with (fail)
    rw [zero2]
    obtain ⟨W, hW, M⟩ := open3 w (fcells f) 32 (acells .u64 2 (g)) 39 (acells .u64 2 (fun _ => 0)) 39
    rw [hW]; clear hW
    go_upto_region 4 with (go_at_call 40; refine (l04Nets_some f hf n hn F hF b o c w.heap.size _ (M.at 0 rfl) (HI.out.later M.below)).mono ?_; rintro e W2 ⟨rfl, hb⟩; rw [hc.out]; have M2 := M.call hb; clear M hb)
    refine wp_region_rel_tail 4 (DL [dV (.slice (some ⟨b, o, none⟩) n c), dV (.agg (acells .u64 2 (cov F n))), dV (.agg (acells .u64 2 (g))), dV (.agg (acells .u64 2 (joinC .andNot (cov F n) g)))]) (fun w' => Mem w w' [⟨w.heap.size, fcells f, 32⟩, ⟨w.heap.size + 1, acells .u64 2 (g), 39⟩, ⟨w.heap.size + 1 + 1, acells .u64 2 (fun _ => 0), 39⟩]) (by kernel_rfl) (by kernel_rfl) grows_mem
      (stays_DL (fun d hd => by
        simp only [List.mem_cons, List.mem_nil_iff, or_false] at hd
        rcases hd with rfl | rfl | rfl | rfl <;> exact stay_V)) M2.drew ?_
    refine rel_val _ rfl rfl (fun _ _ => rfl) (fun _ => ?_)
    simp only [Act.put, List.setIfInBounds_toArray, List.set_cons_zero, List.set_cons_succ]
    refine rel_call (.agg (acells .u64 2 (cov F n))) 41 #[.slice (some ⟨b, o, none⟩) n c] rfl rfl rfl rfl (enters_of Tryd.func41 (by kernel_rfl) rfl) (fun w' hw' => l04Covered_some n hn F hfits b o c w' (HI.out.later hw'.below)) (fun _ => ?_)
    simp only [Act.put, List.setIfInBounds_toArray, List.set_cons_zero, List.set_cons_succ]
    refine rel_load 39 _ rfl (w.heap.size + 1) (0) rfl (acells .u64 2 (g)) _ rfl rfl (fun w' hw' => (hw'.at 1 rfl).whole) Tryd.underlying39 rfl (by rw [acells_size]; exact sizeC) (fun _ => ?_)
    simp only [Act.put, List.setIfInBounds_toArray, List.set_cons_zero, List.set_cons_succ]
    refine rel_call (.agg (acells .u64 2 (joinC .andNot (cov F n) g))) 50 #[.agg (acells .u64 2 (cov F n)), .agg (acells .u64 2 (g))] rfl rfl rfl rfl (enters_of Tryd.func50 (by kernel_rfl) rfl) (fun w' _ => l04Less_any _ _ w') (fun _ => ?_)
    simp only [Act.put, List.setIfInBounds_toArray, List.set_cons_zero, List.set_cons_succ]
    refine rel_nil (fun W4 inv => ?_)
    have M4 := inv.cls
    clear inv M2
    change wpList _ _ _ (_ :: [_]) _ _
    refine wpList_store_row rfl 39 _ _ rfl (w.heap.size + 1 + 1) (acells .u64 2 (joinC .andNot (cov F n) g)) rfl rfl 39 _ (M4.at 2 rfl) (by rw [acells_size]; exact sizeC) (by simp only [acells_size]) (acells_one _ _ _) ?_
    have M5 := M4.row 2 rfl (acells .u64 2 (joinC .andNot (cov F n) g))
    go_wp2_with fail
    exact bodyPost_ret (results_row_tmp rfl _ _ (w.heap.size + 1 + 1) 39 _ _ _ rfl (M5.at 2 rfl) Tryd.underlying39 rfl (by rw [acells_size]; exact sizeC)) rfl ⟨rfl, M5.below⟩
  · have e : ans (netsCode f n F) (joinC .andNot (cov F n) g) = fun _ => 0 := by unfold ans; rw [if_neg hc0]
    rw [e]
    exact bad _ rfl hc0
set_option maxRecDepth 100000 in
set_option maxHeartbeats 4000000 in
theorem implWithHoles (f : Fd) (hf : f.Wf) (n : Nat) (hn : n ≤ 2 ^ 40) (F : Nat → Nat → Int) (hF : ∀ i, i < n → WfN (F i)) (g : Nat → Int) (hgU : U64 g) (b o c : Nat) (A : Nat → Addr) (w : World) (I : InS w b o n ksNet F) (S0 : Sents w A) :
    Calls Tryd.prog 31 #[.agg (fcells f), .slice (some ⟨b, o, none⟩) n c, .agg (acells .u64 2 (g))] w fun e w' => e = .returned (.tuple #[.agg (acells .u64 2 (ans (netsCode f n F) (joinC .andNot (cov F n) g))), .int .i64 (netsCode f n F)]) ∧ Below w.heap.size w w' := by
  have HI := Lib.hid I
  have S : Hid (Sents w A) := Lib.hid S0
  clear I S0
  have hif := isIfaceErr
  have bad : ∀ k : Nat, 1 ≤ k → k ≤ 8 → netErr A (netsCode f n F) = errVal (A k) → Calls Tryd.prog 31 #[.agg (fcells f), .slice (some ⟨b, o, none⟩) n c, .agg (acells .u64 2 (g))] w fun e w' => e = .returned (.tuple #[.agg (acells .u64 2 (fun _ => 0)), .int .i64 k]) ∧ Below w.heap.size w w' := by
    intro k h1 h8 hcode
    have hc := Lib.hid hcode
    clear hcode
    go_enter Tryd.func31, Tryd.ntmps31
    go_upto_region 1 with (fail)
    rw [zero2]
    obtain ⟨W, hW, M⟩ := open3 w (fcells f) 32 (acells .u64 2 (g)) 39 (acells .u64 2 (fun _ => 0)) 39
    rw [hW]; clear hW
    go_wp2_with (first
      | (refine wpList_load_part rfl 32 _ rfl (w.heap.size) 0 rfl (fcells f) _ (M.at 0 rfl).whole Tryd.underlying32 rfl (by rw [fcells_size]; exact sizeFd) ?_)
      | (refine wpList_load_part rfl 39 _ rfl ((w.heap.size + 1)) 0 rfl (acells .u64 2 (g)) _ (M.at 1 rfl).whole Tryd.underlying39 rfl (by rw [acells_size]; exact sizeC) ?_)
      | (go_at_call 36; refine (checkNetting0 f hf n hn F hF b o c A _ (HI.out.later M.below) (S.out.later M.below)).mono ?_; rintro e W2 ⟨rfl, hb⟩; rw [hc.out]; have M2 := M.call hb; go_wp2_with (first
          | (go_at_call 37; refine (codeOf_err A k h1 h8 _ (S.out.later M2.below)).mono ?_; rintro e W3 ⟨rfl, rfl⟩)
          | (refine wpList_store_row rfl 39 _ _ rfl (w.heap.size + 1 + 1) (acells .u64 2 (fun _ => 0)) rfl rfl 39 _ (M2.at 2 rfl) (by rw [acells_size]; exact sizeC) (by simp only [acells_size]) (acells_one _ _ _) ?_))))
    have M3 := M2.row 2 rfl (acells .u64 2 (fun _ => 0))
    exact bodyPost_ret (results_row_tmp rfl _ _ (w.heap.size + 1 + 1) 39 _ _ _ rfl (M3.at 2 rfl) Tryd.underlying39 rfl (by rw [acells_size]; exact sizeC)) rfl ⟨rfl, M3.below⟩
  by_cases hc0 : netsCode f n F = 0
  · obtain ⟨hok, hns, _⟩ := code_0 hc0
    have hfits := code_fits hok hns
    have hcn : Hid (netErr A (netsCode f n F) = .nilIface) := Lib.hid (by rw [hc0]; rfl)
    rw [hc0, ans_0]
    clear bad hc0
    go_enter Tryd.func31, Tryd.ntmps31
    go_upto_region 1 with (fail)
    rw [zero2]
    obtain ⟨W, hW, M⟩ := open3 w (fcells f) 32 (acells .u64 2 (g)) 39 (acells .u64 2 (fun _ => 0)) 39
    rw [hW]; clear hW
    go_upto_region 5 with (first
      | (refine wpList_load_part rfl 32 _ rfl (w.heap.size) 0 rfl (fcells f) _ (M.at 0 rfl).whole Tryd.underlying32 rfl (by rw [fcells_size]; exact sizeFd) ?_)
      | (refine wpList_load_part rfl 39 _ rfl ((w.heap.size + 1)) 0 rfl (acells .u64 2 (g)) _ (M.at 1 rfl).whole Tryd.underlying39 rfl (by rw [acells_size]; exact sizeC) ?_)
      | (go_at_call 36; refine (checkNetting0 f hf n hn F hF b o c A _ (HI.out.later M.below) (S.out.later M.below)).mono ?_; rintro e W2 ⟨rfl, hb⟩; rw [hcn.out]; have M2 := M.call hb; clear M; go_upto_region 5 with (first
          | (go_at_call 42; refine (layers_some n hn F hfits b o c _ (HI.out.later M2.below)).mono ?_; rintro e W3 ⟨rfl, hb3⟩; have M3 := M2.call hb3; have M4 := (M3.alloc #[.int .u64 0, .int .u64 0] 39).alloc #[.int .u64 0, .int .u64 0] 39; rw [World.size_alloc] at M4; clear M2 M3 hb3)
          | (refine wpList_store_row rfl 39 _ _ rfl W3.heap.size (acells .u64 2 (cov F n)) rfl rfl 39 _ (M4.at 3 rfl) (by rw [acells_size]; exact sizeC) (by rw [acells_size]; rfl) (acells_one _ _ _) ?_)
          | (refine wpList_store_row rfl 39 _ _ rfl (W3.heap.size + 1) (acells .u64 2 (twi F n)) rfl rfl 39 _ ((M4.row 3 rfl (acells .u64 2 (cov F n))).at 4 rfl) (by rw [acells_size]; exact sizeC) (by rw [acells_size]; rfl) (acells_one _ _ _) ?_))))
    have M5 := (M4.row 3 rfl (acells .u64 2 (cov F n))).row 4 rfl (acells .u64 2 (twi F n))
    clear M4
    generalize World.setRow _ _ _ = W5 at M5 ⊢
    have hcN := Lib.hid (cov_N100 F n)
    have hWO : Hid (acells .u64 2 (opC .andNot (cov F n) g) = acells .u64 2 (joinC .andNot (cov F n) g)) := Lib.hid (opC_join (less_N100 hcN.out hgU))
    go_wp2_with (first
      | (refine wpList_load_part rfl 39 _ rfl (W3.heap.size) 0 rfl (acells .u64 2 (cov F n)) _ (M5.at 3 rfl).whole Tryd.underlying39 rfl (by rw [acells_size]; exact sizeC) ?_)
      | (refine wpList_load_part rfl 39 _ rfl ((w.heap.size + 1)) 0 rfl (acells .u64 2 (g)) _ (M5.at 1 rfl).whole Tryd.underlying39 rfl (by rw [acells_size]; exact sizeC) ?_)
      | (go_at_call 51; refine (implWithoutOf (cov F n) g _).mono ?_; rintro e W6 ⟨rfl, hb6⟩; rw [hWO.out]; have M6 := M5.call hb6; clear M5 hb6; go_wp2_with (refine wpList_store_row rfl 39 _ _ rfl (w.heap.size + 1 + 1) (acells .u64 2 (joinC .andNot (cov F n) g)) rfl rfl 39 _ (M6.at 2 rfl) (by rw [acells_size]; exact sizeC) (by simp only [acells_size]) (acells_one _ _ _) ?_)))
    have M7 := M6.row 2 rfl (acells .u64 2 (joinC .andNot (cov F n) g))
    exact bodyPost_ret (results_row_tmp rfl _ _ (w.heap.size + 1 + 1) 39 _ _ _ rfl (M7.at 2 rfl) Tryd.underlying39 rfl (by rw [acells_size]; exact sizeC)) rfl ⟨rfl, M7.below⟩
  · have e : ans (netsCode f n F) (joinC .andNot (cov F n) g) = fun _ => 0 := by unfold ans; rw [if_neg hc0]
    rw [e]
    rcases code_three f n F with hc | hc | hc
    · exact absurd hc hc0
    · rw [hc]; exact bad 1 (by omega) (by omega) (by rw [hc]; rfl)
    · rw [hc]; exact bad 3 (by omega) (by omega) (by rw [hc]; rfl)
end
end Go.Proofs.YtkhhkacmfkipgaaDoor
