/-
  Whether places cover all targets: the model's.
-/
import Derived.Test.YteclngooblafoaaDoorCkP
import Derived.Test.YteclngooblafoaaDoorCoS
import Derived.Test.YteclngooblafoaaDoorApaS
namespace Go.Proofs.YteclngooblafoaaDoor
open Go Go.RowKit

def ckVal (f : Fd) (x y : Int) (t : Nat → Int) (m : Nat) (g : Nat → Int) : Bool := if ckCode f x y = 0 then ckB f (cvZ f x y) g m (tgS f t) else false
theorem specUnionK (f g : Nat → Int) (hf : N100 f) (hg : N100 g) (w : World) : Calls Tryd.prog 21 #[.agg (acells .u64 2 f), .agg (acells .u64 2 g)] w fun e w' => e = .returned (.agg (acells .u64 2 (joinC .or f g))) ∧ Below w.heap.size w w' := by
  rw [← opC_join (or_N100 hf hg)]; exact specUnionOf f g w
theorem l03Cover_plc (f : Fd) (hf : f.Wf) (x y : Int) (hx : 1 ≤ x ∧ x ≤ 1000) (hy : 1 ≤ y ∧ y ≤ 1000) (z : Int) (hz : plcB f z = true) (b : Nat) (w : World) (B : Blk w b (fcells f) 33) :
    Calls Tryd.prog 22 #[.pointer (some ⟨b, 0, none⟩), .int .i64 z, .int .i64 x, .int .i64 y] w fun e w' => e = .returned (.agg (acells .u64 2 (cvZ f x y z))) ∧ Below w.heap.size w w' := by
  obtain ⟨p, hp, rfl, hc, hK⟩ := plc_cell hz
  unfold cvZ
  rw [Int.toNat_natCast]
  exact l03Cover_any f hf p hp hc hK x y hx hy b w B
theorem load_i64K (b off : Nat) (v : Value) (w : World) (h : w.cell? ⟨b, off, none⟩ = some v) : (Instr.loadAt 2 (.pointer (some ⟨b, off, none⟩))).run Tryd.prog w = .ok v w := by
  simp [go_sem, h]
set_option maxRecDepth 100000 in
set_option maxHeartbeats 8000000 in
theorem specCheckPlaces (f : Fd) (hf : f.Wf) (x y : Int) (t : Nat → Int) (m : Nat) (hm : m ≤ 2 ^ 40) (g : Nat → Int) (b c : Nat) (w : World) (I : InI w b 0 m g) :
    Calls Tryd.prog 5 #[.agg (fcells f), .int .i64 x, .int .i64 y, .agg (acells .u64 2 t), .slice (some ⟨b, 0, none⟩) m c] w fun e w' => e = .returned (.tuple #[.bool (ckVal f x y t m g), .int .i64 (ckCode f x y)]) ∧ Below w.heap.size w w' := by
  have HI := Lib.hid I
  clear I
  obtain ⟨q, hq⟩ : ∃ q, (inB x 1 1000 && inB y 1 1000) = q := ⟨_, rfl⟩
  have hcode : ckCode f x y = gmCode f q := by rw [← hq]; rfl
  have HG := Lib.hid (fun (b : Nat) (w : World) (B : Blk w b (fcells f) 33) => l03Game_any f hf x y b w B)
  rw [hq] at HG
  have bad : ∀ k : Int, k ≠ 0 → gmCode f q = k → Calls Tryd.prog 5 #[.agg (fcells f), .int .i64 x, .int .i64 y, .agg (acells .u64 2 t), .slice (some ⟨b, 0, none⟩) m c] w fun e w' => e = .returned (.tuple #[.bool (ckVal f x y t m g), .int .i64 (ckCode f x y)]) ∧ Below w.heap.size w w' := by
    intro k hk0 hk
    have hv : ckVal f x y t m g = false := by unfold ckVal; rw [hcode, hk, if_neg hk0]
    rw [hv, hcode, hk]
    have HK := Lib.hid hk
    have hkb : (k != 0) = true := by simpa using hk0
    clear hk hk0 hcode hq hv
    go_enter Tryd.func5, Tryd.ntmps5
    go_upto_region 1 with (fail)
    obtain ⟨W, hW, M⟩ := open2 w (fcells f) 33 (acells .u64 2 t) 35
    rw [hW]; clear hW
    go_wp2_with (go_at_call 19; refine (HG.out w.heap.size _ (M.at 0 rfl)).mono ?_; rintro e w1 ⟨rfl, rfl⟩; rw [HK.out])
    go_ret2
    exact ⟨rfl, M.below⟩
  rcases gm_cases f q with ⟨h0, hok, hqt⟩ | ⟨h0, _⟩ | ⟨h0, _⟩
  · subst hqt
    have hxy : inB x 1 1000 = true ∧ inB y 1 1000 = true := by simpa using hq
    have HK := Lib.hid h0
    have HCZ := Lib.hid (fun z hz b w B => l03Cover_plc f hf x y (inB_iff.1 hxy.1) (inB_iff.1 hxy.2) z hz b w B)
    have HN : Hid (∀ c, N100 (cvZ f x y c)) := Lib.hid (cvZ_N100 f x y)
    obtain ⟨rv, hrv⟩ : ∃ rv, ckVal f x y t m g = rv := ⟨_, rfl⟩
    have HRV : Hid (ckB f (cvZ f x y) g m (tgS f t) = rv) := Lib.hid (by rw [← hrv]; unfold ckVal; rw [hcode, h0, if_pos rfl])
    rw [hrv, hcode, h0]
    obtain ⟨CS, hCS⟩ : ∃ CS, cvZ f x y = CS := ⟨_, rfl⟩
    have HLT := Lib.hid (fun (bf bt : Nat) (w : World) B T => l03Targets_any f hf t bf bt w B T)
    obtain ⟨T, hT⟩ : ∃ T, tgS f t = T := ⟨_, rfl⟩
    rw [hCS] at HCZ HN HRV
    rw [hT] at HRV HLT
    clear bad hcode h0 hok hq hxy hCS hT hrv
    go_enter Tryd.func5, Tryd.ntmps5
    go_upto_region 1 with (fail)
    obtain ⟨W, hW, M⟩ := open2 w (fcells f) 33 (acells .u64 2 t) 35
    rw [hW]; clear hW
    go_upto_region 5 with (go_at_call 19; refine (HG.out w.heap.size _ (M.at 0 rfl)).mono ?_; rintro e w1 ⟨rfl, rfl⟩; rw [HK.out])
    (try rw [zero2])
    obtain ⟨ab, hab⟩ : ∃ ab, ab = W.heap.size := ⟨_, rfl⟩
    have M2 : Mem w (W.alloc (Obj.cells (acells .u64 2 (fun _ => 0)) 35)) [⟨w.heap.size, fcells f, 33⟩, ⟨w.heap.size + 1, acells .u64 2 t, 35⟩, ⟨ab, acells .u64 2 (cvN CS g 0), 35⟩] := by rw [hab]; exact M.alloc (acells .u64 2 (fun _ => 0)) 35
    generalize W.alloc _ = W2 at M2 ⊢
    rw [← hab]
    clear hab M
    have HM := Lib.hid M2
    clear M2
    go_wp2_with fail
    go_loopw [14] (fun i wr => ∃ k : Nat, k ≤ m ∧ i = .int .i64 k ∧ Hid (∀ j, j < k → plcB f (g j) = true) ∧ Hid (Mem w wr [⟨w.heap.size, fcells f, 33⟩, ⟨w.heap.size + 1, acells .u64 2 t, 35⟩, ⟨ab, acells .u64 2 (cvN CS g k), 35⟩])) (fun i _ => m - (intOf i).toNat)
    case atStart => exact ⟨0, by omega, rfl, Lib.hid (fun j hj => absurd hj (by omega)), HM⟩
    case round =>
      clear HM
      obtain ⟨k, hk, rfl, hall, hM⟩ := hrel
      by_cases hlt : k < m
      · have HIR := Lib.hid (HI.out.later hM.out.below)
        have cG := HIR.out k hlt
        rw [Nat.zero_add] at cG
        have HBF := Lib.hid (hM.out.at 0 rfl)
        have hst : cvN CS g (k + 1) = joinC .or (cvN CS g k) (CS (g k)) := rfl
        have HNA : Hid (N100 (cvN CS g k)) := Lib.hid (cvN_N100 HN.out g k)
        have hpl : Hid (∀ z, g k = z → plcB f z = false → rv = false) := Lib.hid (fun z e h => by
          rw [← HRV.out]; unfold ckB; rw [allTo_false hlt (by show plcB f (g k) = false; rw [e]; exact h)]; rfl)
        have hup : Hid (∀ z, g k = z → plcB f z = true → ∀ j, j < k + 1 → plcB f (g j) = true) := Lib.hid (fun z e h j hj => by
          by_cases e2 : j = k
          · subst e2; rw [e]; exact h
          · exact hall.out j (by omega))
        obtain ⟨z, hz⟩ : ∃ z, g k = z := ⟨_, rfl⟩
        have HZ := Lib.hid hz
        rw [hz] at cG hst
        obtain ⟨ga, hga⟩ : ∃ ga, cvN CS g k = ga := ⟨_, rfl⟩
        rw [hga] at hM HNA hst
        have HST := Lib.hid hst
        clear hz hga hst
        cases hc : isCell f z with
        | false =>
          obtain rfl : rv = false := hpl.out z HZ.out (by unfold plcB; rw [hc]; rfl)
          have HC := Lib.hid hc
          clear hc
          go_wp2_with (go_at_call 20; refine (l01Is_any f z w.heap.size _ hf.W hf.H HBF.out).mono ?_; rintro e w' ⟨rfl, rfl⟩; rw [HC.out])
          go_ret2
          exact ⟨rfl, hM.out.below⟩
        | true =>
          obtain ⟨p, hp, rfl⟩ := cell_nat hc
          have HC := Lib.hid hc
          have hKb := hf.K p hp
          have cK := (hM.out.at 0 rfl).cell (fcells_K f p hp)
          have hp1 : (p : Int) < 100 := by omega
          by_cases hK : f.K p = 3
          · obtain rfl : rv = false := hpl.out _ HZ.out (by unfold plcB; rw [hc, Int.toNat_natCast, hK]; rfl)
            have hkk : (f.K p == 3) = true := by simpa using hK
            clear hc hK
            go_wp2_with (go_at_call 20; refine (l01Is_any f (p : Int) w.heap.size _ hf.W hf.H HBF.out).mono ?_; rintro e w' ⟨rfl, rfl⟩; rw [HC.out])
            go_ret2
            exact ⟨rfl, hM.out.below⟩
          · have hpp : plcB f (p : Int) = true := by unfold plcB; rw [hc, Int.toNat_natCast]; simpa using hK
            have e3 := Lib.hid (hup.out _ HZ.out hpp)
            have HCP := Lib.hid (HCZ.out _ hpp)
            have HNZ := Lib.hid (HN.out (p : Int))
            have hkk : (f.K p == 3) = false := by simpa using hK
            obtain ⟨g9, hg9⟩ : ∃ g9, CS (p : Int) = g9 := ⟨_, rfl⟩
            rw [hg9] at HCP HNZ HST
            clear hc hK hpp hg9
            go_upto_region 10 with (go_at_call 20; refine (l01Is_any f (p : Int) w.heap.size _ hf.W hf.H HBF.out).mono ?_; rintro e w' ⟨rfl, rfl⟩; rw [HC.out])
            have HGR := Lib.hid cG
            refine wp_region_rel_tail 9 (DL [dV (.agg (acells .u64 2 ga)), dV (.slice (some ⟨b, 0, none⟩) m c), dV (.int .i64 (k : Int)), dV (.pointer (some ⟨b, 0 + k * 1, none⟩)), dV (.int .i64 (p : Int)), dV (.int .i64 x), dV (.int .i64 y), dV (.agg (acells .u64 2 g9)), dV (.agg (acells .u64 2 (joinC .or ga g9)))]) (fun w' => (Mem w w' [⟨w.heap.size, fcells f, 33⟩, ⟨w.heap.size + 1, acells .u64 2 t, 35⟩, ⟨ab, acells .u64 2 ga, 35⟩]) ∧ Below wr.heap.size wr w') (by kernel_rfl) (by kernel_rfl) grows_memB
              (stays_DL (fun d hd => by
                simp only [List.mem_cons, List.mem_nil_iff, or_false] at hd
                rcases hd with rfl | rfl | rfl | rfl | rfl | rfl | rfl | rfl | rfl <;> exact stay_V)) ⟨hM.out.drew, (Below.refl _ _).drew⟩ ?_
            refine rel_load 35 _ rfl ab 0 rfl (acells .u64 2 ga) _ rfl rfl (fun w' hw' => (hw'.1.at 2 rfl).whole) Tryd.underlying35 rfl (by rw [acells_size]; exact sizeC) (fun _ => ?_)
            simp only [Act.put, List.setIfInBounds_toArray, List.set_cons_zero, List.set_cons_succ]
            refine rel_val _ rfl rfl (fun _ _ => rfl) (fun _ => ?_)
            simp only [Act.put, List.setIfInBounds_toArray, List.set_cons_zero, List.set_cons_succ]
            refine rel_val _ rfl rfl (fun _ _ => rfl) (fun _ => ?_)
            simp only [Act.put, List.setIfInBounds_toArray, List.set_cons_zero, List.set_cons_succ]
            refine rel_index 30 2 _ _ rfl b 0 m c 1 k rfl rfl hlt Tryd.underlying30 (by kernel_rfl) rfl rfl (fun _ => ?_)
            simp only [Act.put, List.setIfInBounds_toArray, List.set_cons_zero, List.set_cons_succ]
            refine rel_cell 2 _ rfl b (0 + k * 1) rfl (.int .i64 (p : Int)) rfl rfl (fun w' c => load_i64K _ _ _ w' c) (fun w' hw' => by rw [Nat.zero_add, Nat.mul_one]; exact cell_later HGR.out hw'.2) (fun _ => ?_)
            simp only [Act.put, List.setIfInBounds_toArray, List.set_cons_zero, List.set_cons_succ]
            refine rel_val _ rfl rfl (fun _ _ => rfl) (fun _ => ?_)
            simp only [Act.put, List.setIfInBounds_toArray, List.set_cons_zero, List.set_cons_succ]
            refine rel_val _ rfl rfl (fun _ _ => rfl) (fun _ => ?_)
            simp only [Act.put, List.setIfInBounds_toArray, List.set_cons_zero, List.set_cons_succ]
            refine rel_call (.agg (acells .u64 2 g9)) 22 #[.pointer (some ⟨w.heap.size, 0, none⟩), .int .i64 (p : Int), .int .i64 x, .int .i64 y] rfl rfl rfl rfl (enters_of Tryd.func22 (by kernel_rfl) rfl) (fun w' hw' => HCP.out w.heap.size w' (hw'.1.at 0 rfl)) (fun _ => ?_)
            simp only [Act.put, List.setIfInBounds_toArray, List.set_cons_zero, List.set_cons_succ]
            refine rel_call (.agg (acells .u64 2 (joinC .or ga g9))) 21 #[.agg (acells .u64 2 ga), .agg (acells .u64 2 g9)] rfl rfl rfl rfl (enters_of Tryd.func21 (by kernel_rfl) rfl) (fun w' _ => specUnionK ga g9 HNA.out HNZ.out w') (fun _ => ?_)
            simp only [Act.put, List.setIfInBounds_toArray, List.set_cons_zero, List.set_cons_succ]
            refine rel_nil (fun W5 inv => ?_)
            have M5 := inv.cls.1
            clear inv
            change wpList _ _ _ (_ :: []) _ _
            refine wpList_store_row rfl 35 _ _ rfl ab (acells .u64 2 (joinC .or ga g9)) rfl rfl 35 _ (M5.at 2 rfl) (by rw [acells_size]; exact sizeC) (by simp only [acells_size]) (acells_one _ _ _) ?_
            have M6 := M5.row 2 rfl (acells .u64 2 (joinC .or ga g9))
            go_wp2_with fail
            go_roundw
            case rel => exact ⟨k + 1, by omega, by go_num, e3, Lib.hid (by rw [HST.out]; exact M6)⟩
            case measure => simp [intOf]; omega
      · obtain rfl : k = m := by omega
        have hpl : Hid (allTo k (fun i => plcB f (g i)) = true) := Lib.hid (allTo_iff.2 hall.out)
        have HCB : Hid (coverB CS g k T = rv) := Lib.hid (by rw [← HRV.out]; unfold ckB; rw [hpl.out]; rfl)
        have HLY : Hid ((∀ i, i < (hlist T 100).length → hasC (cvN CS g k) ((hlist T 100).getD i 0) = true) → coverB CS g k T = true) := Lib.hid (fun h => coverB_list HN.out h)
        have HLM : Hid (∀ i, i < (hlist T 100).length → hasC (cvN CS g k) ((hlist T 100).getD i 0) = false → coverB CS g k T = false) := Lib.hid (fun i hi h => coverB_miss HN.out hi h)
        rw [HCB.out] at HLY HLM
        obtain ⟨ga, hga⟩ : ∃ ga, cvN CS g k = ga := ⟨_, rfl⟩
        rw [hga] at hM HLY HLM
        have hLle := hlist_le T 100
        obtain ⟨L, hL⟩ : ∃ L, hlist T 100 = L := ⟨_, rfl⟩
        rw [hL] at HLT HLY HLM hLle
        clear hga hL hlt hk HRV
        go_upto_region 12 with (go_at_call 23; refine (HLT.out w.heap.size (w.heap.size + 1) _ (hM.out.at 0 rfl) (hM.out.at 1 rfl)).mono ?_; rintro e W3 ⟨v, rfl, ho, hb⟩; have M3 := hM.out.call hb; clear hb)
        obtain ⟨q9, c9, rfl, V, _⟩ := Nown rfl ho
        have HJ := Lib.hid V.j
        have HM3 := Lib.hid M3
        clear V ho M3
        go_wp2_with fail
        go_loopw [16] (fun i wr => ∃ r : Nat, r ≤ L.length ∧ i = .int .i64 r ∧ Hid (∀ j, j < r → hasC ga (L.getD j 0) = true) ∧ wr = W3) (fun i _ => L.length - (intOf i).toNat)
        case atStart => exact ⟨0, by omega, rfl, Lib.hid (fun j hj => absurd hj (by omega)), rfl⟩
        case round =>
          obtain ⟨r, hr, rfl, hall2, rfl⟩ := hrel
          by_cases hlt : r < L.length
          · rcases HJ.out with hz | ⟨lb, lo, rfl, J3⟩
            · omega
            · have cL : wr.cell? ⟨lb, lo + r, none⟩ = some (.int .i64 (L.getD r 0)) := J3 r hlt
              obtain ⟨z, hz⟩ : ∃ z, L.getD r 0 = z := ⟨_, rfl⟩
              have HZ := Lib.hid hz
              rw [hz] at cL
              have HT9 := Lib.hid (HM3.out.at 2 rfl)
              clear hz J3
              cases hc : hasC ga z with
              | false =>
                obtain rfl : rv = false := HLM.out _ hlt (by rw [HZ.out]; exact hc)
                have HC := Lib.hid hc
                clear hc
                go_wp2_with (go_at_call 24; refine (l01Has_any ga z ab _ HT9.out).mono ?_; rintro e w' ⟨rfl, rfl⟩; rw [HC.out])
                go_ret2
                exact ⟨rfl, HM3.out.below⟩
              | true =>
                have HC := Lib.hid hc
                clear hc
                go_wp2_with (go_at_call 24; refine (l01Has_any ga z ab _ HT9.out).mono ?_; rintro e w' ⟨rfl, rfl⟩; rw [HC.out])
                go_roundw
                case rel => exact ⟨r + 1, by omega, by go_num, Lib.hid (fun j hj => by
                  by_cases e : j = r
                  · subst e; rw [HZ.out]; exact HC.out
                  · exact hall2.out j (by omega)), by first | rfl | trivial⟩
                case measure => simp [intOf]; omega
          · obtain rfl : r = L.length := by omega
            obtain rfl : rv = true := HLY.out hall2.out
            clear hlt hr
            go_wp2_with fail
            go_ret2
            exact ⟨rfl, HM3.out.below⟩
  · exact bad 1 (by decide) h0
  · exact bad 2 (by decide) h0
end Go.Proofs.YteclngooblafoaaDoor
