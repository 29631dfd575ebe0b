/-
  Whether places cover all targets: the program's.
-/
import Derived.Test.YteclngooblafoaaDoorCkC
import Derived.Test.YteclngooblafoaaDoorCkS
namespace Go.Proofs.YteclngooblafoaaDoor
open Go Go.RowKit

theorem withoutK (f g : Nat → Int) (hf : N100 f) (hg : U64 g) (w : World) : Calls Tryd.prog 30 #[.agg (acells .u64 2 f), .agg (acells .u64 2 g)] w fun e w' => e = .returned (.agg (acells .u64 2 (joinC .andNot f g))) ∧ Below w.heap.size w w' := by
  rw [← opC_join (less_N100 hf hg)]; exact implWithoutOf f g w
set_option maxRecDepth 100000 in
set_option maxHeartbeats 8000000 in
theorem implCheckPlaces (f : Fd) (hf : f.Wf) (x y : Int) (t : Nat → Int) (m : Nat) (hm : m ≤ 2 ^ 40) (g : Nat → Int) (hg0 : ∀ i, i < m → -9223372036854775808 ≤ g i ∧ g i ≤ 9223372036854775807) (b c : Nat) (A : Nat → Addr) (w : World) (I : InI w b 0 m g) (S0 : Sents w A) :
    Calls Tryd.prog 9 #[.agg (fcells f), .int .i64 x, .int .i64 y, .agg (acells .u64 2 t), .slice (some ⟨b, 0, none⟩) m c] w fun e w' => e = .returned (.tuple #[.bool (ckVal f x y t m g), .int .i64 (ckCode f x y)]) ∧ Below w.heap.size w w' := by
  have S : Hid (Sents w A) := Lib.hid S0
  have HI := Lib.hid I
  have HG0 := Lib.hid hg0
  clear S0 I hg0
  have hif := isIfaceErr
  have hgm : ckCode f x y = gmCode f (allTo 0 (fun i => isCell f ((fun _ => (0 : Int)) i)) && inB y 1 1000 && inB x 1 1000) := by
    unfold ckCode gmCode
    simp only [allTo, List.range_zero, List.all_nil, Bool.true_and]
    cases okF f <;> cases inB x 1 1000 <;> cases inB y 1 1000 <;> rfl
  have HCH := Lib.hid (fun (W : World) (S : Sents W A) => checkCovering_any f hf x y 0 (by omega) (fun _ => (0 : Int)) (fun _ _ => ⟨by decide, by decide⟩) none 0 A W (.inl rfl) S)
  have bad : ∀ k : Nat, 1 ≤ k → k ≤ 8 → ckCode f x y = k → Calls Tryd.prog 9 #[.agg (fcells f), .int .i64 x, .int .i64 y, .agg (acells .u64 2 t), .slice (some ⟨b, 0, none⟩) m c] w fun e w' => e = .returned (.tuple #[.bool (ckVal f x y t m g), .int .i64 (ckCode f x y)]) ∧ Below w.heap.size w w' := by
    intro k h1 h8 hk
    have hv : ckVal f x y t m g = false := by unfold ckVal; rw [hk, if_neg (by omega)]
    have HE : Hid (askErr A (gmCode f (allTo 0 (fun i => isCell f ((fun _ => (0 : Int)) i)) && inB y 1 1000 && inB x 1 1000)) = errVal (A k)) := Lib.hid (by rw [← hgm, hk]; unfold askErr; rw [if_neg (by omega), Int.toNat_natCast])
    rw [hv, hk]
    clear hk hgm hv
    go_enter Tryd.func9, Tryd.ntmps9
    go_upto_region 1 with (fail)
    obtain ⟨W, hW, M⟩ := open2 w (fcells f) 33 (acells .u64 2 t) 35
    rw [hW]; clear hW
    go_wp2_with (first
      | (refine wpList_load_part rfl 33 _ rfl w.heap.size 0 rfl (fcells f) _ (M.at 0 rfl).whole Tryd.underlying33 rfl (by rw [fcells_size]; exact sizeFd) ?_)
      | (go_at_call 27; refine (HCH.out _ (S.out.later M.below)).mono ?_; rintro e W2 ⟨rfl, hb⟩; rw [HE.out]; have M2 := M.call hb; clear M hb)
      | (go_at_call 28; refine (codeOf_err A k h1 h8 _ (S.out.later M2.below)).mono ?_; rintro e W3 ⟨rfl, rfl⟩))
    go_ret2
    exact ⟨rfl, M2.below⟩
  rcases gm_cases f (inB x 1 1000 && inB y 1 1000) with ⟨h0, hok, hq⟩ | ⟨h0, _⟩ | ⟨h0, _⟩
  · have hcode : ckCode f x y = 0 := h0
    have HE : Hid (askErr A (gmCode f (allTo 0 (fun i => isCell f ((fun _ => (0 : Int)) i)) && inB y 1 1000 && inB x 1 1000)) = .nilIface) := Lib.hid (by rw [← hgm, hcode]; rfl)
    have hxy : inB x 1 1000 = true ∧ inB y 1 1000 = true := by simpa using hq
    have HCA := Lib.hid (fun (w : World) I S => coverOfAll_list f hf hok x y (inB_iff.1 hxy.1) m hm g HG0.out b c A w I S)
    have HSO := Lib.hid (fun w => soilIn_any f hf hok t w)
    have HNT : Hid (N100 (tgS f t)) := Lib.hid (want_N100K f _ 100 (Nat.le_refl _))
    have HNC : Hid (∀ c, N100 (cvZ f x y c)) := Lib.hid (cvZ_N100 f x y)
    obtain ⟨rv, hrv⟩ : ∃ rv, ckVal f x y t m g = rv := ⟨_, rfl⟩
    have HRV : Hid (ckB f (cvZ f x y) g m (tgS f t) = rv) := Lib.hid (by rw [← hrv]; unfold ckVal; rw [hcode, if_pos rfl])
    rw [hrv, hcode]
    obtain ⟨CS, hCS⟩ : ∃ CS, cvZ f x y = CS := ⟨_, rfl⟩
    obtain ⟨T, hT⟩ : ∃ T, tgS f t = T := ⟨_, rfl⟩
    rw [hCS] at HCA HNC HRV
    rw [hT] at HRV HSO HNT
    clear bad h0 hok hq hxy hcode hgm hCS hT hrv
    have hzr : ∀ w : World, (zeroValue 35).run Tryd.prog w = .ok (.agg (acells .u64 2 (fun _ => 0))) w := fun w => zero_run (by kernel_rfl) w
    go_enter Tryd.func9, Tryd.ntmps9
    go_upto_region 1 with (fail)
    obtain ⟨W, hW, M⟩ := open2 w (fcells f) 33 (acells .u64 2 t) 35
    rw [hW]; clear hW
    go_upto_region 5 with (first
      | (refine wpList_load_part rfl 33 _ rfl w.heap.size 0 rfl (fcells f) _ (M.at 0 rfl).whole Tryd.underlying33 rfl (by rw [fcells_size]; exact sizeFd) ?_)
      | (go_at_call 27; refine (HCH.out _ (S.out.later M.below)).mono ?_; rintro e W2 ⟨rfl, hb⟩; rw [HE.out]; have M2 := M.call hb; clear M hb)
      | (refine wpList_load_part rfl 33 _ rfl w.heap.size 0 rfl (fcells f) _ (M2.at 0 rfl).whole Tryd.underlying33 rfl (by rw [fcells_size]; exact sizeFd) ?_)
      | (go_at_call 29; refine (HCA.out _ (HI.out.later M2.below) (S.out.later M2.below)).mono ?_; rintro e W3 ⟨GA, ev, rfl, hres, hb⟩; have HRES := Lib.hid hres; have M3 := M2.call hb; clear hb hres; have M4 := M3.alloc (acells .u64 2 (fun _ => 0)) 35)
      | (refine wpList_store_row rfl 35 _ _ rfl W3.heap.size (acells .u64 2 GA) rfl rfl 35 _ (M4.at 2 rfl) (by rw [acells_size]; exact sizeC) (by simp only [acells_size]) (acells_one _ _ _) ?_))
    have M5 := M4.row 2 rfl (acells .u64 2 GA)
    obtain ⟨ab, hab⟩ : ∃ ab, ab = W3.heap.size := ⟨_, rfl⟩
    rw [← hab] at M5 ⊢
    generalize World.setRow _ _ _ = W5 at M5 ⊢
    clear hab M4 M3 M2
    rcases HRES.out with ⟨hall, hG, rfl⟩ | ⟨hno, a, rfl⟩
    · have hb : ∀ i, i < m → 0 ≤ g i ∧ g i ≤ 99 := fun i hi => by
        obtain ⟨q, hq, e, _⟩ := plc_cell (allTo_iff.1 hall i hi)
        omega
      have HNG : Hid (N100 GA) := Lib.hid (by rw [hG]; exact alS_N100 HNC.out g m)
      have HQ : Hid (rv = true ↔ ((joinC .andNot T GA) 0 = (fun _ => 0 : Nat → Int) 0 ∧ (joinC .andNot T GA) 1 = (fun _ => 0 : Nat → Int) 1)) := Lib.hid (by
        rw [← HRV.out, hG]
        unfold ckB
        rw [hall, Bool.true_and]
        exact coverB_less HNC.out hb HNT.out)
      clear hall hG hb HRES HRV
      refine wp_region_rel (DL [dV (.nilIface), dV (.bool true), dV (.bool true), dV (.agg (fcells f)), dV (.agg (acells .u64 2 (t))), dV (.agg (acells .u64 2 T)), dV (.agg (acells .u64 2 (GA))), dV (.agg (acells .u64 2 (joinC .andNot T GA))), dV (.agg (acells .u64 2 (fun _ => 0))), dV (.bool rv), dV (.bool rv), dV (.bool rv), dV (.int .i64 0)]) (fun w' => Mem w w' [⟨w.heap.size, fcells f, 33⟩, ⟨w.heap.size + 1, acells .u64 2 (t), 35⟩, ⟨ab, acells .u64 2 (GA), 35⟩]) (by kernel_rfl) (by kernel_rfl) grows_mem
        (stays_DL (fun d hd => by
          simp only [List.mem_cons, List.mem_nil_iff, or_false] at hd
          rcases hd with rfl | rfl | rfl | rfl | rfl | rfl | rfl | rfl | rfl | rfl | rfl | rfl | rfl <;> exact stay_V)) M5.drew ?_
      refine rel_val _ rfl rfl (fun _ _ => rfl) (fun _ => ?_)
      simp only [Act.put, List.setIfInBounds_toArray, List.set_cons_zero, List.set_cons_succ]
      refine rel_val (.bool true) rfl rfl (fun _ _ => by simp [execOp, Act.eval, go_sem]) (fun _ => ?_)
      simp only [Act.put, List.setIfInBounds_toArray, List.set_cons_zero, List.set_cons_succ]
      refine rel_val _ rfl rfl (fun _ _ => rfl) (fun _ => ?_)
      simp only [Act.put, List.setIfInBounds_toArray, List.set_cons_zero, List.set_cons_succ]
      refine rel_load 33 _ rfl (w.heap.size) (0) rfl (fcells f) _ rfl rfl (fun w' hw' => (hw'.at 0 rfl).whole) Tryd.underlying33 rfl (by rw [fcells_size]; exact sizeFd) (fun _ => ?_)
      simp only [Act.put, List.setIfInBounds_toArray, List.set_cons_zero, List.set_cons_succ]
      refine rel_load 35 _ rfl (w.heap.size + 1) (0) rfl (acells .u64 2 (t)) _ rfl rfl (fun w' hw' => (hw'.at 1 rfl).whole) Tryd.underlying35 rfl (by rw [acells_size]; exact sizeC) (fun _ => ?_)
      simp only [Act.put, List.setIfInBounds_toArray, List.set_cons_zero, List.set_cons_succ]
      refine rel_call (.agg (acells .u64 2 T)) 31 #[.agg (fcells f), .agg (acells .u64 2 t)] rfl rfl rfl rfl (enters_of Tryd.func31 (by kernel_rfl) rfl) (fun w' _ => HSO.out w') (fun _ => ?_)
      simp only [Act.put, List.setIfInBounds_toArray, List.set_cons_zero, List.set_cons_succ]
      refine rel_load 35 _ rfl (ab) (0) rfl (acells .u64 2 (GA)) _ rfl rfl (fun w' hw' => (hw'.at 2 rfl).whole) Tryd.underlying35 rfl (by rw [acells_size]; exact sizeC) (fun _ => ?_)
      simp only [Act.put, List.setIfInBounds_toArray, List.set_cons_zero, List.set_cons_succ]
      refine rel_call (.agg (acells .u64 2 (joinC .andNot T GA))) 30 #[.agg (acells .u64 2 T), .agg (acells .u64 2 GA)] rfl rfl rfl rfl (enters_of Tryd.func30 (by kernel_rfl) rfl) (fun w' _ => withoutK T GA HNT.out HNG.out.1 w') (fun _ => ?_)
      simp only [Act.put, List.setIfInBounds_toArray, List.set_cons_zero, List.set_cons_succ]
      refine rel_val (.agg (acells .u64 2 (fun _ => 0))) rfl rfl (fun _ _ => by simp [execOp, go_sem, hzr]) (fun _ => ?_)
      simp only [Act.put, List.setIfInBounds_toArray, List.set_cons_zero, List.set_cons_succ]
      refine rel_eql 35 _ _ _ rfl (acells .u64 2 (joinC .andNot T GA)) (acells .u64 2 (fun _ => 0)) rfl rfl _ rfl rfl (by kernel_rfl) (fun w' => run_eqC _ _ (less_u64 HNT.out.1 HNG.out.1) (fun _ => by simp) rv HQ.out w') (fun _ => ?_)
      simp only [Act.put, List.setIfInBounds_toArray, List.set_cons_zero, List.set_cons_succ]
      refine rel_val _ rfl rfl (fun _ _ => rfl) (fun _ => ?_)
      simp only [Act.put, List.setIfInBounds_toArray, List.set_cons_zero, List.set_cons_succ]
      refine rel_val _ rfl rfl (fun _ _ => rfl) (fun _ => ?_)
      simp only [Act.put, List.setIfInBounds_toArray, List.set_cons_zero, List.set_cons_succ]
      refine rel_val _ rfl rfl (fun _ _ => rfl) (fun _ => ?_)
      simp only [Act.put, List.setIfInBounds_toArray, List.set_cons_zero, List.set_cons_succ]
      refine rel_nil (fun W6 inv => ?_)
      have M7 := inv.cls
      clear inv
      go_wp2_with fail
      go_ret2
      exact ⟨rfl, M7.below⟩
    · obtain rfl : rv = false := by rw [← HRV.out]; unfold ckB; rw [hno]; rfl
      clear hno HRES HRV
      refine wp_region_rel (DL [dV (errVal a), dV (.bool false), dV (.bool false), dV undef, dV undef, dV undef, dV undef, dV undef, dV undef, dV undef, dV (.bool false), dV (.bool false), dV (.int .i64 0)]) (fun w' => Mem w w' [⟨w.heap.size, fcells f, 33⟩, ⟨w.heap.size + 1, acells .u64 2 (t), 35⟩, ⟨ab, acells .u64 2 (GA), 35⟩]) (by kernel_rfl) (by kernel_rfl) grows_mem
        (stays_DL (fun d hd => by
          simp only [List.mem_cons, List.mem_nil_iff, or_false] at hd
          rcases hd with rfl | rfl | rfl | rfl | rfl | rfl | rfl | rfl | rfl | rfl | rfl | rfl | rfl <;> exact stay_V)) M5.drew ?_
      refine rel_val _ rfl rfl (fun _ _ => rfl) (fun _ => ?_)
      simp only [Act.put, List.setIfInBounds_toArray, List.set_cons_zero, List.set_cons_succ]
      refine rel_val (.bool false) rfl rfl (fun _ _ => by simp [execOp, Act.eval, go_sem, errVal, hif]) (fun _ => ?_)
      simp only [Act.put, List.setIfInBounds_toArray, List.set_cons_zero, List.set_cons_succ]
      refine rel_val _ rfl rfl (fun _ _ => rfl) (fun _ => ?_)
      simp only [Act.put, List.setIfInBounds_toArray, List.set_cons_zero, List.set_cons_succ]
      refine rel_skip rfl ?_
      simp only [Act.put, List.setIfInBounds_toArray, List.set_cons_zero, List.set_cons_succ]
      refine rel_skip rfl ?_
      simp only [Act.put, List.setIfInBounds_toArray, List.set_cons_zero, List.set_cons_succ]
      refine rel_skip rfl ?_
      simp only [Act.put, List.setIfInBounds_toArray, List.set_cons_zero, List.set_cons_succ]
      refine rel_skip rfl ?_
      simp only [Act.put, List.setIfInBounds_toArray, List.set_cons_zero, List.set_cons_succ]
      refine rel_skip rfl ?_
      simp only [Act.put, List.setIfInBounds_toArray, List.set_cons_zero, List.set_cons_succ]
      refine rel_skip rfl ?_
      simp only [Act.put, List.setIfInBounds_toArray, List.set_cons_zero, List.set_cons_succ]
      refine rel_skip rfl ?_
      simp only [Act.put, List.setIfInBounds_toArray, List.set_cons_zero, List.set_cons_succ]
      refine rel_val _ rfl rfl (fun _ _ => rfl) (fun _ => ?_)
      simp only [Act.put, List.setIfInBounds_toArray, List.set_cons_zero, List.set_cons_succ]
      refine rel_val _ rfl rfl (fun _ _ => rfl) (fun _ => ?_)
      simp only [Act.put, List.setIfInBounds_toArray, List.set_cons_zero, List.set_cons_succ]
      refine rel_val _ rfl rfl (fun _ _ => rfl) (fun _ => ?_)
      simp only [Act.put, List.setIfInBounds_toArray, List.set_cons_zero, List.set_cons_succ]
      refine rel_nil (fun W6 inv => ?_)
      have M7 := inv.cls
      clear inv
      go_wp2_with fail
      go_ret2
      exact ⟨rfl, M7.below⟩
  · exact bad 1 (by omega) (by omega) h0
  · exact bad 2 (by omega) (by omega) h0
end Go.Proofs.YteclngooblafoaaDoor
