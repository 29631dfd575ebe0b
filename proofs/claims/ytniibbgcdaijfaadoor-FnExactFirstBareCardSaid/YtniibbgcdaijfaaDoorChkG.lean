/-
  The program's check of a field, nets and targets: without prices, and with prices.
-/
import Derived.Test.YtniibbgcdaijfaaDoorNetH
import Derived.Test.YtniibbgcdaijfaaDoorRegE
import Derived.Test.YtniibbgcdaijfaaDoorPri
namespace Go.Proofs.YtniibbgcdaijfaaDoor
open Go Go.RowKit

/-- Are all targets cells? -/
def tgtOk (f : Fd) (g : Nat → Int) : Bool := allTo (hlist g 100).length (fun i => isCell f ((hlist g 100).getD i 0))
/-- The code of a field, nets, prices (or none) and targets. -/
def codeT (f : Fd) (n : Nat) (F : Nat → Nat → Int) (g : Nat → Int) (pk : Bool) : Int := if okF f && netsOk f n F && pk then (if 20 < n ∨ 12 < (hlist g 100).length then 3 else if tgtOk f g then 0 else 2) else 1
theorem codeT_field {f : Fd} {n : Nat} {F : Nat → Nat → Int} {g : Nat → Int} {pk : Bool} (h : okF f = false) : codeT f n F g pk = 1 := by unfold codeT; rw [h]; rfl
theorem codeT_net {f : Fd} {n : Nat} {F : Nat → Nat → Int} {g : Nat → Int} {pk : Bool} (h : netsOk f n F = false) : codeT f n F g pk = 1 := by unfold codeT; rw [h]; simp
theorem codeT_pri {f : Fd} {n : Nat} {F : Nat → Nat → Int} {g : Nat → Int} {pk : Bool} (h : pk = false) : codeT f n F g pk = 1 := by unfold codeT; rw [h]; simp
theorem codeT_many {f : Fd} {n : Nat} {F : Nat → Nat → Int} {g : Nat → Int} {pk : Bool} (h1 : okF f = true) (h2 : netsOk f n F = true) (h3 : pk = true) (h : 20 < n ∨ 12 < (hlist g 100).length) : codeT f n F g pk = 3 := by unfold codeT; rw [h1, h2, h3, if_pos (show (true && true && true) = true from rfl), if_pos h]
theorem codeT_cells {f : Fd} {n : Nat} {F : Nat → Nat → Int} {g : Nat → Int} {pk : Bool} (h1 : okF f = true) (h2 : netsOk f n F = true) (h3 : pk = true) (h4 : ¬ 20 < n) (h5 : ¬ 12 < (hlist g 100).length) : codeT f n F g pk = if tgtOk f g then 0 else 2 := by unfold codeT; rw [h1, h2, h3, if_pos (show (true && true && true) = true from rfl), if_neg (by omega)]
theorem codeT_zero (f : Fd) (n : Nat) (F : Nat → Nat → Int) : codeT f n F (fun _ => 0) true = netsCode f n F := by
  unfold codeT netsCode tgtOk
  rw [hlist_zero 100 (Nat.le_refl _), Bool.and_true]
  cases okF f && netsOk f n F with
  | false => rfl
  | true =>
    by_cases h : 20 < n
    · simp [h]
    · simp [h, allTo]
theorem errIf_tgt (A : Nat → Addr) (f : Fd) (g : Nat → Int) : errIf A 2 (tgtOk f g) = netErr A (if tgtOk f g then 0 else 2) := by cases tgtOk f g <;> rfl
theorem hlist_in {g : Nat → Int} {i : Nat} (h : i < (hlist g 100).length) : 0 ≤ (hlist g 100).getD i 0 ∧ (hlist g 100).getD i 0 ≤ 99 := by
  rw [List.getD_eq_getElem?_getD, List.getElem?_eq_getElem h, Option.getD_some]
  have hm := List.getElem_mem h
  unfold hlist at hm
  simp only [List.mem_map, List.mem_filter, List.mem_range] at hm
  obtain ⟨c, ⟨hc, _⟩, e⟩ := hm
  unfold hlist
  omega
theorem listP (g : Nat → Int) (w : World) : Calls Tryd.prog 41 #[.agg (acells .u64 2 g)] w fun e w' => ∃ v, e = .returned v ∧ Below w.heap.size w w' ∧ ∀ w'', Below w'.heap.size w' w'' → ∃ q c, v = .slice q (hlist g 100).length c ∧ InO w'' q (hlist g 100).length (fun i => (hlist g 100).getD i 0) :=
  (implListOf g w).mono (fun e w2 h => by
    obtain ⟨v, rfl, ho, _, hb⟩ := h
    obtain ⟨q, c, rfl, J, _⟩ := (show Lst w.heap.size w2 v (hlist g 100) from ho).val
    exact ⟨_, rfl, hb, fun w3 hb3 => ⟨q, c, rfl, J.later hb3⟩⟩)

set_option maxRecDepth 100000 in
set_option maxHeartbeats 8000000 in
theorem checkNettingG (f : Fd) (hf : f.Wf) (n : Nat) (hn : n ≤ 2 ^ 40) (F : Nat → Nat → Int) (hF : ∀ i, i < n → WfN (F i)) (g : Nat → Int) (hg : ∀ i, i < 2 → (Lit.int .u64 (g i)).wf = true) (b o c : Nat) (A : Nat → Addr) (w : World) (I : InS w b o n ksNet F) (S0 : Sents w A) :
    Calls Tryd.prog 23 #[.agg (fcells f), .slice (some ⟨b, o, none⟩) n c, .agg (acells .u64 2 g), .slice none 0 0] w fun e w' => e = .returned (netErr A (codeT f n F g (true))) ∧ Below w.heap.size w w' := by
  have HI := Lib.hid I
  have S : Hid (Sents w A) := Lib.hid S0
  clear I S0
  have hif := isIfaceErr
  cases hok : okF f with
  | false =>
    rw [codeT_field hok, netErr_1]
    go_enter Tryd.func23, Tryd.ntmps23
    go_upto_region 1 with (fail)
    obtain ⟨W, hW, M⟩ := open2 w (fcells f) 34 (acells .u64 2 g) 38
    rw [hW]; clear hW
    go_wp2_with (first | (go_at_call 36; refine (validField_any f hf _).mono ?_; rintro e W2 ⟨rfl, hb⟩; rw [hok]; have M2 := M.call hb; have hv1 := (S.out.later M2.below).v1; go_wp2_with fail) | (refine wpList_load_part rfl 34 _ rfl (w.heap.size) 0 rfl (fcells f) _ (M.at 0 rfl).whole Tryd.underlying34 rfl (by rw [fcells_size]; exact sizeFd) ?_))
    go_ret
    exact ⟨rfl, M2.below⟩
  | true =>
    cases hns : netsOk f n F with
    | false =>
      rw [codeT_net hns, netErr_1]
      go_enter Tryd.func23, Tryd.ntmps23
      go_upto_region 1 with (fail)
      obtain ⟨W, hW, M⟩ := open2 w (fcells f) 34 (acells .u64 2 g) 38
      rw [hW]; clear hW
      go_wp2_with (first | (go_at_call 36; refine (validField_any f hf _).mono ?_; rintro e W2 ⟨rfl, hb⟩; rw [hok]; have M2 := M.call hb; go_wp2_with (first | (go_at_call 37; refine (validNets_some f hf hok n hn F hF b o c _ (HI.out.later M2.below)).mono ?_; rintro e W3 ⟨rfl, hb3⟩; rw [hns]; have M3 := M2.call hb3; clear M2; have hv1 := (S.out.later M3.below).v1; go_wp2_with fail) | (refine wpList_load_wanted rfl 34 _ rfl (w.heap.size) 0 rfl (fcells f) _ (M2.at 0 rfl).whole Tryd.underlying34 rfl (by rw [fcells_size]; exact sizeFd) ?_))) | (refine wpList_load_part rfl 34 _ rfl (w.heap.size) 0 rfl (fcells f) _ (M.at 0 rfl).whole Tryd.underlying34 rfl (by rw [fcells_size]; exact sizeFd) ?_))
      go_ret
      exact ⟨rfl, M3.below⟩
    | true =>
      by_cases h20 : 20 < n
      · skip
        rw [codeT_many hok hns rfl (.inl h20), netErr_3]
        go_enter Tryd.func23, Tryd.ntmps23
        go_upto_region 1 with (fail)
        obtain ⟨W, hW, M⟩ := open2 w (fcells f) 34 (acells .u64 2 g) 38
        rw [hW]; clear hW
        go_upto_region 4 with (first | (go_at_call 36; refine (validField_any f hf _).mono ?_; rintro e W2 ⟨rfl, hb⟩; rw [hok]; have M2 := M.call hb; go_wp2_with (first | (go_at_call 37; refine (validNets_some f hf hok n hn F hF b o c _ (HI.out.later M2.below)).mono ?_; rintro e W3 ⟨rfl, hb3⟩; rw [hns]; have M3 := M2.call hb3; clear M2) | (refine wpList_load_wanted rfl 34 _ rfl (w.heap.size) 0 rfl (fcells f) _ (M2.at 0 rfl).whole Tryd.underlying34 rfl (by rw [fcells_size]; exact sizeFd) ?_))) | (refine wpList_load_part rfl 34 _ rfl (w.heap.size) 0 rfl (fcells f) _ (M.at 0 rfl).whole Tryd.underlying34 rfl (by rw [fcells_size]; exact sizeFd) ?_))
        clear M
        refine wp_loop_rounds 1 ?_
        rw [rounds_succ]
        have M5 := M3
        clear M3
        have hd : decide ((20 : Int) < (n : Int)) = true := decide_eq_true (by omega)
        have hv3 := (S.out.later M5.below).v3
        go_wp2_with fail
        go_ret
        exact ⟨rfl, M5.below⟩
      have hd : decide ((20 : Int) < (n : Int)) = false := decide_eq_false (by omega)
      by_cases h12 : 12 < (hlist g 100).length
      · skip
        rw [codeT_many hok hns rfl (.inr h12), netErr_3]
        go_enter Tryd.func23, Tryd.ntmps23
        go_upto_region 1 with (fail)
        obtain ⟨W, hW, M⟩ := open2 w (fcells f) 34 (acells .u64 2 g) 38
        rw [hW]; clear hW
        go_upto_region 4 with (first | (go_at_call 36; refine (validField_any f hf _).mono ?_; rintro e W2 ⟨rfl, hb⟩; rw [hok]; have M2 := M.call hb; go_wp2_with (first | (go_at_call 37; refine (validNets_some f hf hok n hn F hF b o c _ (HI.out.later M2.below)).mono ?_; rintro e W3 ⟨rfl, hb3⟩; rw [hns]; have M3 := M2.call hb3; clear M2) | (refine wpList_load_wanted rfl 34 _ rfl (w.heap.size) 0 rfl (fcells f) _ (M2.at 0 rfl).whole Tryd.underlying34 rfl (by rw [fcells_size]; exact sizeFd) ?_))) | (refine wpList_load_part rfl 34 _ rfl (w.heap.size) 0 rfl (fcells f) _ (M.at 0 rfl).whole Tryd.underlying34 rfl (by rw [fcells_size]; exact sizeFd) ?_))
        clear M
        refine wp_loop_rounds 1 ?_
        rw [rounds_succ]
        have M5 := M3
        clear M3
        have hd2 : decide ((12 : Int) < ((hlist g 100).length : Int)) = true := decide_eq_true (by omega)
        have t0 := (M5.at 1 rfl).cell (acells_get _ _ _ 0 (by omega))
        have t1 := (M5.at 1 rfl).cell (acells_get _ _ _ 1 (by omega))
        go_wp2_with (first
          | (go_at_call 39; refine (countCells_any g hg _).mono ?_; rintro e W7 ⟨rfl, hb7⟩; have M7 := M5.call hb7; clear M5 t0 t1; have hv3 := (S.out.later M7.below).v3; go_wp2_with fail)
          | (refine wpList_load_wanted rfl 38 _ rfl ((w.heap.size + 1)) 0 rfl (acells .u64 2 (g)) _ (M5.at 1 rfl).whole Tryd.underlying38 rfl (by rw [acells_size]; exact sizeC) ?_))
        go_ret
        exact ⟨rfl, M7.below⟩
      · skip
        rw [codeT_cells hok hns rfl h20 h12, ← errIf_tgt]
        go_enter Tryd.func23, Tryd.ntmps23
        go_upto_region 1 with (fail)
        obtain ⟨W, hW, M⟩ := open2 w (fcells f) 34 (acells .u64 2 g) 38
        rw [hW]; clear hW
        go_upto_region 4 with (first | (go_at_call 36; refine (validField_any f hf _).mono ?_; rintro e W2 ⟨rfl, hb⟩; rw [hok]; have M2 := M.call hb; go_wp2_with (first | (go_at_call 37; refine (validNets_some f hf hok n hn F hF b o c _ (HI.out.later M2.below)).mono ?_; rintro e W3 ⟨rfl, hb3⟩; rw [hns]; have M3 := M2.call hb3; clear M2) | (refine wpList_load_wanted rfl 34 _ rfl (w.heap.size) 0 rfl (fcells f) _ (M2.at 0 rfl).whole Tryd.underlying34 rfl (by rw [fcells_size]; exact sizeFd) ?_))) | (refine wpList_load_part rfl 34 _ rfl (w.heap.size) 0 rfl (fcells f) _ (M.at 0 rfl).whole Tryd.underlying34 rfl (by rw [fcells_size]; exact sizeFd) ?_))
        clear M
        refine wp_loop_rounds 1 ?_
        rw [rounds_succ]
        have M5 := M3
        clear M3
        have hd2 : decide ((12 : Int) < ((hlist g 100).length : Int)) = false := decide_eq_false (by omega)
        have t0 := (M5.at 1 rfl).cell (acells_get _ _ _ 0 (by omega))
        have t1 := (M5.at 1 rfl).cell (acells_get _ _ _ 1 (by omega))
        go_upto_region 11 with (first
          | (go_at_call 39; refine (countCells_any g hg _).mono ?_; rintro e W7 ⟨rfl, hb7⟩; have M7 := M5.call hb7; clear M5 t0 t1; go_wp2_with fail)
          | (refine wpList_load_wanted rfl 38 _ rfl ((w.heap.size + 1)) 0 rfl (acells .u64 2 (g)) _ (M5.at 1 rfl).whole Tryd.underlying38 rfl (by rw [acells_size]; exact sizeC) ?_))
        clear hd hd2
        refine wp_region_rel (DL [dV (.agg (fcells f)), dV (.agg (acells .u64 2 (g))), dP (fun v _ _ w9 => ∃ q c, v = .slice q (hlist g 100).length c ∧ InO w9 q (hlist g 100).length (fun i => (hlist g 100).getD i 0)), dV (errIf A 2 (tgtOk f g)), dV (errIf A 2 (tgtOk f g))]) (fun w' => Mem w w' [⟨w.heap.size, fcells f, 34⟩, ⟨w.heap.size + 1, acells .u64 2 (g), 38⟩]) (by kernel_rfl) (by kernel_rfl) grows_mem
          (stays_DL (fun d hd => by
            simp only [List.mem_cons, List.mem_nil_iff, or_false] at hd
            rcases hd with rfl | rfl | rfl | rfl | rfl <;> first | exact stay_V | exact stay_P)) M7.drew ?_
        refine rel_load 34 _ rfl (w.heap.size) (0) rfl (fcells f) _ rfl rfl (fun w' hw' => (hw'.at 0 rfl).whole) Tryd.underlying34 rfl (by rw [fcells_size]; exact sizeFd) (fun _ => ?_)
        simp only [Act.put, List.setIfInBounds_toArray, List.set_cons_zero, List.set_cons_succ]
        refine rel_load 38 _ rfl (w.heap.size + 1) (0) rfl (acells .u64 2 (g)) _ rfl rfl (fun w' hw' => (hw'.at 1 rfl).whole) Tryd.underlying38 rfl (by rw [acells_size]; exact sizeC) (fun _ => ?_)
        simp only [Act.put, List.setIfInBounds_toArray, List.set_cons_zero, List.set_cons_succ]
        refine rel_callP _ 41 #[.agg (acells .u64 2 g)] rfl rfl rfl rfl (enters_of Tryd.func41 (by kernel_rfl) rfl) (fun w' _ => listP g w') (fun v lo hi _ hv => ?_)
        obtain ⟨_, _, q, c9, rfl, _⟩ := hv
        simp only [Act.put, List.setIfInBounds_toArray, List.set_cons_zero, List.set_cons_succ]
        refine rel_callK 2 (errIf A 2 (tgtOk f g)) 40 #[.agg (fcells f), .slice q (hlist g 100).length c9] rfl rfl rfl rfl (enters_of Tryd.func40 (by kernel_rfl) rfl) rfl rfl rfl rfl (fun w' hw' hx => checkCells_O f hf hok _ (by have := hlist_le g 100; omega) _ (fun i hi => by have := hlist_in hi; omega) A q c9 w' (by obtain ⟨q', c', e, J⟩ := hx.1; cases e; exact J) (S.out.later hw'.below)) (fun _ => ?_)
        simp only [Act.put, List.setIfInBounds_toArray, List.set_cons_zero, List.set_cons_succ]
        refine rel_val _ rfl rfl (fun _ _ => rfl) (fun _ => ?_)
        simp only [Act.put, List.setIfInBounds_toArray, List.set_cons_zero, List.set_cons_succ]
        refine rel_nil (fun w' inv => ?_)
        have M8 := inv.cls
        clear inv
        obtain ⟨ev, hev⟩ : ∃ ev, errIf A 2 (tgtOk f g) = ev := ⟨_, rfl⟩
        rw [hev]
        have HEV := Lib.hid hev
        clear hev
        go_wp2_with fail
        go_ret
        exact ⟨by rw [HEV.out]; rfl, M8.below⟩
set_option maxRecDepth 100000 in
set_option maxHeartbeats 8000000 in
theorem checkNettingP (f : Fd) (hf : f.Wf) (n : Nat) (hn : n ≤ 2 ^ 40) (F : Nat → Nat → Int) (hF : ∀ i, i < n → WfN (F i)) (g : Nat → Int) (hg : ∀ i, i < 2 → (Lit.int .u64 (g i)).wf = true) (p : Nat → Int) (hp : WfP p) (pb : Nat) (b o c : Nat) (A : Nat → Addr) (w : World) (I : InS w b o n ksNet F) (PB0 : Blk w pb #[.int .i16 (p 0), .int .i16 (p 1), .int .i16 (p 2)] 78) (S0 : Sents w A) :
    Calls Tryd.prog 23 #[.agg (fcells f), .slice (some ⟨b, o, none⟩) n c, .agg (acells .u64 2 g), .slice (some ⟨pb, 0, none⟩) 1 1] w fun e w' => e = .returned (netErr A (codeT f n F g (pricesOk p))) ∧ Below w.heap.size w w' := by
  have HI := Lib.hid I
  have S : Hid (Sents w A) := Lib.hid S0
  have PB := Lib.hid PB0
  clear I S0 PB0
  have hif := isIfaceErr
  cases hok : okF f with
  | false =>
    rw [codeT_field hok, netErr_1]
    go_enter Tryd.func23, Tryd.ntmps23
    go_upto_region 1 with (fail)
    obtain ⟨W, hW, M⟩ := open2 w (fcells f) 34 (acells .u64 2 g) 38
    rw [hW]; clear hW
    go_wp2_with (first | (go_at_call 36; refine (validField_any f hf _).mono ?_; rintro e W2 ⟨rfl, hb⟩; rw [hok]; have M2 := M.call hb; have hv1 := (S.out.later M2.below).v1; go_wp2_with fail) | (refine wpList_load_part rfl 34 _ rfl (w.heap.size) 0 rfl (fcells f) _ (M.at 0 rfl).whole Tryd.underlying34 rfl (by rw [fcells_size]; exact sizeFd) ?_))
    go_ret
    exact ⟨rfl, M2.below⟩
  | true =>
    cases hns : netsOk f n F with
    | false =>
      rw [codeT_net hns, netErr_1]
      go_enter Tryd.func23, Tryd.ntmps23
      go_upto_region 1 with (fail)
      obtain ⟨W, hW, M⟩ := open2 w (fcells f) 34 (acells .u64 2 g) 38
      rw [hW]; clear hW
      go_wp2_with (first | (go_at_call 36; refine (validField_any f hf _).mono ?_; rintro e W2 ⟨rfl, hb⟩; rw [hok]; have M2 := M.call hb; go_wp2_with (first | (go_at_call 37; refine (validNets_some f hf hok n hn F hF b o c _ (HI.out.later M2.below)).mono ?_; rintro e W3 ⟨rfl, hb3⟩; rw [hns]; have M3 := M2.call hb3; clear M2; have hv1 := (S.out.later M3.below).v1; go_wp2_with fail) | (refine wpList_load_wanted rfl 34 _ rfl (w.heap.size) 0 rfl (fcells f) _ (M2.at 0 rfl).whole Tryd.underlying34 rfl (by rw [fcells_size]; exact sizeFd) ?_))) | (refine wpList_load_part rfl 34 _ rfl (w.heap.size) 0 rfl (fcells f) _ (M.at 0 rfl).whole Tryd.underlying34 rfl (by rw [fcells_size]; exact sizeFd) ?_))
      go_ret
      exact ⟨rfl, M3.below⟩
    | true =>
      cases hpk : pricesOk p with
      | false =>
        rw [codeT_pri rfl, netErr_1]
        go_enter Tryd.func23, Tryd.ntmps23
        go_upto_region 1 with (fail)
        obtain ⟨W, hW, M⟩ := open2 w (fcells f) 34 (acells .u64 2 g) 38
        rw [hW]; clear hW
        go_upto_region 4 with (first | (go_at_call 36; refine (validField_any f hf _).mono ?_; rintro e W2 ⟨rfl, hb⟩; rw [hok]; have M2 := M.call hb; go_wp2_with (first | (go_at_call 37; refine (validNets_some f hf hok n hn F hF b o c _ (HI.out.later M2.below)).mono ?_; rintro e W3 ⟨rfl, hb3⟩; rw [hns]; have M3 := M2.call hb3; clear M2) | (refine wpList_load_wanted rfl 34 _ rfl (w.heap.size) 0 rfl (fcells f) _ (M2.at 0 rfl).whole Tryd.underlying34 rfl (by rw [fcells_size]; exact sizeFd) ?_))) | (refine wpList_load_part rfl 34 _ rfl (w.heap.size) 0 rfl (fcells f) _ (M.at 0 rfl).whole Tryd.underlying34 rfl (by rw [fcells_size]; exact sizeFd) ?_))
        clear M
        have PB3 := PB.out.later M3.below
        refine wp_loop_rounds 2 ?_
        rw [rounds_succ]
        go_upto_region 6 with (refine wpList_load_part rfl 78 _ rfl pb (0 + 0 * 3) rfl #[.int .i16 (p 0), .int .i16 (p 1), .int .i16 (p 2)] _ PB3.whole Tryd.underlying78 rfl (by kernel_rfl) ?_)
        have M4 := M3.alloc #[.int .i16 (p 0), .int .i16 (p 1), .int .i16 (p 2)] 78
        obtain ⟨qb, hqb⟩ : ∃ qb, W3.heap.size = qb := ⟨_, rfl⟩
        rw [hqb] at M4 ⊢
        generalize W3.alloc (.cells #[.int .i16 (p 0), .int .i16 (p 1), .int .i16 (p 2)] 78) = W4 at M4 ⊢
        clear M3 PB3 hqb
        go_wp2_with (first | (refine wpList_load_part rfl 78 _ rfl qb 0 rfl (#[.int .i16 (p 0), .int .i16 (p 1), .int .i16 (p 2)]) _ (M4.at 2 rfl).whole Tryd.underlying78 rfl (by kernel_rfl) ?_) | (go_at_call 38; refine (validPrices_any p hp _).mono ?_; rintro e W5 ⟨rfl, hb5⟩; rw [hpk]; have M5 := M4.call hb5; have hv1 := (S.out.later M5.below).v1; go_wp2_with fail))
        go_ret
        exact ⟨rfl, M5.below⟩
      | true =>
        by_cases h20 : 20 < n
        · skip
          rw [codeT_many hok hns rfl (.inl h20), netErr_3]
          go_enter Tryd.func23, Tryd.ntmps23
          go_upto_region 1 with (fail)
          obtain ⟨W, hW, M⟩ := open2 w (fcells f) 34 (acells .u64 2 g) 38
          rw [hW]; clear hW
          go_upto_region 4 with (first | (go_at_call 36; refine (validField_any f hf _).mono ?_; rintro e W2 ⟨rfl, hb⟩; rw [hok]; have M2 := M.call hb; go_wp2_with (first | (go_at_call 37; refine (validNets_some f hf hok n hn F hF b o c _ (HI.out.later M2.below)).mono ?_; rintro e W3 ⟨rfl, hb3⟩; rw [hns]; have M3 := M2.call hb3; clear M2) | (refine wpList_load_wanted rfl 34 _ rfl (w.heap.size) 0 rfl (fcells f) _ (M2.at 0 rfl).whole Tryd.underlying34 rfl (by rw [fcells_size]; exact sizeFd) ?_))) | (refine wpList_load_part rfl 34 _ rfl (w.heap.size) 0 rfl (fcells f) _ (M.at 0 rfl).whole Tryd.underlying34 rfl (by rw [fcells_size]; exact sizeFd) ?_))
          clear M
          have PB3 := PB.out.later M3.below
          refine wp_loop_rounds 2 ?_
          rw [rounds_succ]
          go_upto_region 6 with (refine wpList_load_part rfl 78 _ rfl pb (0 + 0 * 3) rfl #[.int .i16 (p 0), .int .i16 (p 1), .int .i16 (p 2)] _ PB3.whole Tryd.underlying78 rfl (by kernel_rfl) ?_)
          have M4 := M3.alloc #[.int .i16 (p 0), .int .i16 (p 1), .int .i16 (p 2)] 78
          obtain ⟨qb, hqb⟩ : ∃ qb, W3.heap.size = qb := ⟨_, rfl⟩
          rw [hqb] at M4 ⊢
          generalize W3.alloc (.cells #[.int .i16 (p 0), .int .i16 (p 1), .int .i16 (p 2)] 78) = W4 at M4 ⊢
          clear M3 PB3 hqb
          go_upto_region 8 with (first | (refine wpList_load_part rfl 78 _ rfl qb 0 rfl (#[.int .i16 (p 0), .int .i16 (p 1), .int .i16 (p 2)]) _ (M4.at 2 rfl).whole Tryd.underlying78 rfl (by kernel_rfl) ?_) | (go_at_call 38; refine (validPrices_any p hp _).mono ?_; rintro e W5 ⟨rfl, hb5⟩; rw [hpk]; have M50 := M4.call hb5; have M5 := Mem.init (L := [_, _]) M50; clear M50 M4 hb5))
          go_wp2_with fail
          rw [rounds_succ]
          have hd : decide ((20 : Int) < (n : Int)) = true := decide_eq_true (by omega)
          have hv3 := (S.out.later M5.below).v3
          go_wp2_with fail
          go_ret
          exact ⟨rfl, M5.below⟩
        have hd : decide ((20 : Int) < (n : Int)) = false := decide_eq_false (by omega)
        by_cases h12 : 12 < (hlist g 100).length
        · skip
          rw [codeT_many hok hns rfl (.inr h12), netErr_3]
          go_enter Tryd.func23, Tryd.ntmps23
          go_upto_region 1 with (fail)
          obtain ⟨W, hW, M⟩ := open2 w (fcells f) 34 (acells .u64 2 g) 38
          rw [hW]; clear hW
          go_upto_region 4 with (first | (go_at_call 36; refine (validField_any f hf _).mono ?_; rintro e W2 ⟨rfl, hb⟩; rw [hok]; have M2 := M.call hb; go_wp2_with (first | (go_at_call 37; refine (validNets_some f hf hok n hn F hF b o c _ (HI.out.later M2.below)).mono ?_; rintro e W3 ⟨rfl, hb3⟩; rw [hns]; have M3 := M2.call hb3; clear M2) | (refine wpList_load_wanted rfl 34 _ rfl (w.heap.size) 0 rfl (fcells f) _ (M2.at 0 rfl).whole Tryd.underlying34 rfl (by rw [fcells_size]; exact sizeFd) ?_))) | (refine wpList_load_part rfl 34 _ rfl (w.heap.size) 0 rfl (fcells f) _ (M.at 0 rfl).whole Tryd.underlying34 rfl (by rw [fcells_size]; exact sizeFd) ?_))
          clear M
          have PB3 := PB.out.later M3.below
          refine wp_loop_rounds 2 ?_
          rw [rounds_succ]
          go_upto_region 6 with (refine wpList_load_part rfl 78 _ rfl pb (0 + 0 * 3) rfl #[.int .i16 (p 0), .int .i16 (p 1), .int .i16 (p 2)] _ PB3.whole Tryd.underlying78 rfl (by kernel_rfl) ?_)
          have M4 := M3.alloc #[.int .i16 (p 0), .int .i16 (p 1), .int .i16 (p 2)] 78
          obtain ⟨qb, hqb⟩ : ∃ qb, W3.heap.size = qb := ⟨_, rfl⟩
          rw [hqb] at M4 ⊢
          generalize W3.alloc (.cells #[.int .i16 (p 0), .int .i16 (p 1), .int .i16 (p 2)] 78) = W4 at M4 ⊢
          clear M3 PB3 hqb
          go_upto_region 8 with (first | (refine wpList_load_part rfl 78 _ rfl qb 0 rfl (#[.int .i16 (p 0), .int .i16 (p 1), .int .i16 (p 2)]) _ (M4.at 2 rfl).whole Tryd.underlying78 rfl (by kernel_rfl) ?_) | (go_at_call 38; refine (validPrices_any p hp _).mono ?_; rintro e W5 ⟨rfl, hb5⟩; rw [hpk]; have M50 := M4.call hb5; have M5 := Mem.init (L := [_, _]) M50; clear M50 M4 hb5))
          go_wp2_with fail
          rw [rounds_succ]
          have hd2 : decide ((12 : Int) < ((hlist g 100).length : Int)) = true := decide_eq_true (by omega)
          have t0 := (M5.at 1 rfl).cell (acells_get _ _ _ 0 (by omega))
          have t1 := (M5.at 1 rfl).cell (acells_get _ _ _ 1 (by omega))
          go_wp2_with (first
            | (go_at_call 39; refine (countCells_any g hg _).mono ?_; rintro e W7 ⟨rfl, hb7⟩; have M7 := M5.call hb7; clear M5 t0 t1; have hv3 := (S.out.later M7.below).v3; go_wp2_with fail)
            | (refine wpList_load_wanted rfl 38 _ rfl ((w.heap.size + 1)) 0 rfl (acells .u64 2 (g)) _ (M5.at 1 rfl).whole Tryd.underlying38 rfl (by rw [acells_size]; exact sizeC) ?_))
          go_ret
          exact ⟨rfl, M7.below⟩
        · skip
          rw [codeT_cells hok hns rfl h20 h12, ← errIf_tgt]
          go_enter Tryd.func23, Tryd.ntmps23
          go_upto_region 1 with (fail)
          obtain ⟨W, hW, M⟩ := open2 w (fcells f) 34 (acells .u64 2 g) 38
          rw [hW]; clear hW
          go_upto_region 4 with (first | (go_at_call 36; refine (validField_any f hf _).mono ?_; rintro e W2 ⟨rfl, hb⟩; rw [hok]; have M2 := M.call hb; go_wp2_with (first | (go_at_call 37; refine (validNets_some f hf hok n hn F hF b o c _ (HI.out.later M2.below)).mono ?_; rintro e W3 ⟨rfl, hb3⟩; rw [hns]; have M3 := M2.call hb3; clear M2) | (refine wpList_load_wanted rfl 34 _ rfl (w.heap.size) 0 rfl (fcells f) _ (M2.at 0 rfl).whole Tryd.underlying34 rfl (by rw [fcells_size]; exact sizeFd) ?_))) | (refine wpList_load_part rfl 34 _ rfl (w.heap.size) 0 rfl (fcells f) _ (M.at 0 rfl).whole Tryd.underlying34 rfl (by rw [fcells_size]; exact sizeFd) ?_))
          clear M
          have PB3 := PB.out.later M3.below
          refine wp_loop_rounds 2 ?_
          rw [rounds_succ]
          go_upto_region 6 with (refine wpList_load_part rfl 78 _ rfl pb (0 + 0 * 3) rfl #[.int .i16 (p 0), .int .i16 (p 1), .int .i16 (p 2)] _ PB3.whole Tryd.underlying78 rfl (by kernel_rfl) ?_)
          have M4 := M3.alloc #[.int .i16 (p 0), .int .i16 (p 1), .int .i16 (p 2)] 78
          obtain ⟨qb, hqb⟩ : ∃ qb, W3.heap.size = qb := ⟨_, rfl⟩
          rw [hqb] at M4 ⊢
          generalize W3.alloc (.cells #[.int .i16 (p 0), .int .i16 (p 1), .int .i16 (p 2)] 78) = W4 at M4 ⊢
          clear M3 PB3 hqb
          go_upto_region 8 with (first | (refine wpList_load_part rfl 78 _ rfl qb 0 rfl (#[.int .i16 (p 0), .int .i16 (p 1), .int .i16 (p 2)]) _ (M4.at 2 rfl).whole Tryd.underlying78 rfl (by kernel_rfl) ?_) | (go_at_call 38; refine (validPrices_any p hp _).mono ?_; rintro e W5 ⟨rfl, hb5⟩; rw [hpk]; have M50 := M4.call hb5; have M5 := Mem.init (L := [_, _]) M50; clear M50 M4 hb5))
          go_wp2_with fail
          rw [rounds_succ]
          have hd2 : decide ((12 : Int) < ((hlist g 100).length : Int)) = false := decide_eq_false (by omega)
          have t0 := (M5.at 1 rfl).cell (acells_get _ _ _ 0 (by omega))
          have t1 := (M5.at 1 rfl).cell (acells_get _ _ _ 1 (by omega))
          go_upto_region 11 with (first
            | (go_at_call 39; refine (countCells_any g hg _).mono ?_; rintro e W7 ⟨rfl, hb7⟩; have M7 := M5.call hb7; clear M5 t0 t1; go_wp2_with fail)
            | (refine wpList_load_wanted rfl 38 _ rfl ((w.heap.size + 1)) 0 rfl (acells .u64 2 (g)) _ (M5.at 1 rfl).whole Tryd.underlying38 rfl (by rw [acells_size]; exact sizeC) ?_))
          clear hd hd2
          refine wp_region_rel (DL [dV (.agg (fcells f)), dV (.agg (acells .u64 2 (g))), dP (fun v _ _ w9 => ∃ q c, v = .slice q (hlist g 100).length c ∧ InO w9 q (hlist g 100).length (fun i => (hlist g 100).getD i 0)), dV (errIf A 2 (tgtOk f g)), dV (errIf A 2 (tgtOk f g))]) (fun w' => Mem w w' [⟨w.heap.size, fcells f, 34⟩, ⟨w.heap.size + 1, acells .u64 2 (g), 38⟩]) (by kernel_rfl) (by kernel_rfl) grows_mem
            (stays_DL (fun d hd => by
              simp only [List.mem_cons, List.mem_nil_iff, or_false] at hd
              rcases hd with rfl | rfl | rfl | rfl | rfl <;> first | exact stay_V | exact stay_P)) M7.drew ?_
          refine rel_load 34 _ rfl (w.heap.size) (0) rfl (fcells f) _ rfl rfl (fun w' hw' => (hw'.at 0 rfl).whole) Tryd.underlying34 rfl (by rw [fcells_size]; exact sizeFd) (fun _ => ?_)
          simp only [Act.put, List.setIfInBounds_toArray, List.set_cons_zero, List.set_cons_succ]
          refine rel_load 38 _ rfl (w.heap.size + 1) (0) rfl (acells .u64 2 (g)) _ rfl rfl (fun w' hw' => (hw'.at 1 rfl).whole) Tryd.underlying38 rfl (by rw [acells_size]; exact sizeC) (fun _ => ?_)
          simp only [Act.put, List.setIfInBounds_toArray, List.set_cons_zero, List.set_cons_succ]
          refine rel_callP _ 41 #[.agg (acells .u64 2 g)] rfl rfl rfl rfl (enters_of Tryd.func41 (by kernel_rfl) rfl) (fun w' _ => listP g w') (fun v lo hi _ hv => ?_)
          obtain ⟨_, _, q, c9, rfl, _⟩ := hv
          simp only [Act.put, List.setIfInBounds_toArray, List.set_cons_zero, List.set_cons_succ]
          refine rel_callK 2 (errIf A 2 (tgtOk f g)) 40 #[.agg (fcells f), .slice q (hlist g 100).length c9] rfl rfl rfl rfl (enters_of Tryd.func40 (by kernel_rfl) rfl) rfl rfl rfl rfl (fun w' hw' hx => checkCells_O f hf hok _ (by have := hlist_le g 100; omega) _ (fun i hi => by have := hlist_in hi; omega) A q c9 w' (by obtain ⟨q', c', e, J⟩ := hx.1; cases e; exact J) (S.out.later hw'.below)) (fun _ => ?_)
          simp only [Act.put, List.setIfInBounds_toArray, List.set_cons_zero, List.set_cons_succ]
          refine rel_val _ rfl rfl (fun _ _ => rfl) (fun _ => ?_)
          simp only [Act.put, List.setIfInBounds_toArray, List.set_cons_zero, List.set_cons_succ]
          refine rel_nil (fun w' inv => ?_)
          have M8 := inv.cls
          clear inv
          obtain ⟨ev, hev⟩ : ∃ ev, errIf A 2 (tgtOk f g) = ev := ⟨_, rfl⟩
          rw [hev]
          have HEV := Lib.hid hev
          clear hev
          go_wp2_with fail
          go_ret
          exact ⟨by rw [HEV.out]; rfl, M8.below⟩
end Go.Proofs.YtniibbgcdaijfaaDoor
