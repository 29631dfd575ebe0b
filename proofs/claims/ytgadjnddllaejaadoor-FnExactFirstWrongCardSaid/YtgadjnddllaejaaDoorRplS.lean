/-
  A diary from a field on: the model's way.
-/
import Derived.Test.YtgadjnddllaejaaDoorRpl
namespace Go.Proofs.YtgadjnddllaejaaDoor
open Go Go.RowKit

theorem open4R (w : World) (c1 : Array Value) (t1 : TypeId) (c2 : Array Value) (t2 : TypeId) (c3 : Array Value) (t3 : TypeId) (c4 : Array Value) (t4 : TypeId) : ∃ W, (((w.alloc (.cells c1 t1)).alloc (.cells c2 t2)).alloc (.cells c3 t3)).alloc (.cells c4 t4) = W ∧ Mem w W [⟨w.heap.size, c1, t1⟩, ⟨w.heap.size + 1, c2, t2⟩, ⟨w.heap.size + 1 + 1, c3, t3⟩, ⟨w.heap.size + 1 + 1 + 1, c4, t4⟩] := by
  have h := ((((Mem.nil w).alloc c1 t1).alloc c2 t2).alloc c3 t3).alloc c4 t4
  simp only [World.size_alloc, List.nil_append, List.cons_append] at h
  exact ⟨_, rfl, h⟩
def diC (f : Fd) (n : Nat) : Int := if okF f then (if 100 < n then 3 else 0) else 1
theorem l07Diary_any (f : Fd) (hf : f.Wf) (fb : Nat) (s : Option Addr) (n c : Nat) (hn : n ≤ 2 ^ 40) (w : World) (B : Blk w fb (fcells f) 30) : Calls Tryd.prog 15 #[.pointer (some ⟨fb, 0, none⟩), .slice s n c] w fun e w' => e = .returned (.int .i64 (diC f n)) ∧ w = w' := by
  have HB := Lib.hid B
  clear B
  unfold diC
  cases hok : okF f with
  | false =>
    have HOK := Lib.hid hok
    clear hok
    rw [if_neg (by decide)]
    go_enter Tryd.func15, Tryd.ntmps15
    go_wp2_with (go_at_call 26; refine (l01Ok_any f hf fb _ HB.out).mono ?_; rintro e w1 ⟨rfl, rfl⟩; rw [HOK.out])
    go_ret
    exact ⟨rfl, rfl⟩
  | true =>
    have HOK := Lib.hid hok
    clear hok
    rw [if_pos rfl]
    by_cases hb : 100 < n
    · rw [if_pos hb]
      have hd : decide ((100 : Int) < (n : Int)) = true := decide_eq_true (by omega)
      go_enter Tryd.func15, Tryd.ntmps15
      go_wp2_with (go_at_call 26; refine (l01Ok_any f hf fb _ HB.out).mono ?_; rintro e w1 ⟨rfl, rfl⟩; rw [HOK.out])
      go_ret
      exact ⟨rfl, rfl⟩
    · rw [if_neg hb]
      have hd : decide ((100 : Int) < (n : Int)) = false := decide_eq_false (by omega)
      go_enter Tryd.func15, Tryd.ntmps15
      go_wp2_with (go_at_call 26; refine (l01Ok_any f hf fb _ HB.out).mono ?_; rintro e w1 ⟨rfl, rfl⟩; rw [HOK.out])
      go_ret
      exact ⟨rfl, rfl⟩
set_option maxRecDepth 100000 in
set_option maxHeartbeats 8000000 in
theorem l07Replay_any (f : Fd) (hf : f.Wf) (hok : okF f = true) (n : Nat) (hn : n ≤ 100) (F : Nat → Nat → Int) (hF : ∀ i, i < n → WfEn (F i)) (b o c : Nat) (w : World) (I : InS w b o n ksEntry F) :
    Calls Tryd.prog 16 #[.agg (fcells f), .slice (some ⟨b, o, none⟩) n c] w fun e w' => e = .returned (.tuple #[.agg (fcells (roF f n F)), .agg (acells .i64 4 (roS f n F)), .int .i64 (roAt f n F), .int .i64 (roCode f n F)]) ∧ Below w.heap.size w w' := by
  have HI := Lib.hid I
  have HF := Lib.hid hF
  have HFO := Lib.hid (fun k => rpF_ok hf hok (F := F) k)
  clear I hF hf hok
  have hz : Hid (Tryd.zeroCells30.size = 202) := Lib.hid (by rw [zeroFd, fcells_size])
  have hz1 : Hid (Tryd.zeroCells30.all (·.oneCell') = true) := Lib.hid (by rw [zeroFd]; exact fcells_one _)
  go_enter Tryd.func16, Tryd.ntmps16
  go_upto_region 2 with (fail)
  obtain ⟨W, hW, M⟩ := open4R w (fcells f) 30 Tryd.zeroCells30 30 (acells .i64 4 (fun _ => 0)) 31 (acells .i64 4 (fun _ => 0)) 31
  rw [zero4] at hW
  rw [hW]; clear hW
  go_wp2_with fail
  go_loopw [9] (fun i wr => ∃ k : Nat, k ≤ n ∧ i = .int .i64 k ∧ rpW f F k = k ∧ Mem w wr [⟨w.heap.size, fcells (rpF f F k), 30⟩, ⟨w.heap.size + 1, Tryd.zeroCells30, 30⟩, ⟨w.heap.size + 1 + 1, acells .i64 4 (fun _ => 0), 31⟩, ⟨w.heap.size + 1 + 1 + 1, acells .i64 4 (rpS F k), 31⟩]) (fun i _ => n - (intOf i).toNat)
  case atStart => exact ⟨0, by omega, rfl, rfl, M⟩
  case round =>
    clear M
    obtain ⟨k, hk, rfl, hW9, M⟩ := hrel
    by_cases hlt : k < n
    · have hr := HI.out.elem (by decide) M.below hlt
      obtain ⟨hok9, hf9⟩ := HFO.out k
      rcases rp_codes f F k with h0 | ⟨c9, hc1, hc8, hc⟩
      · have HC : Hid (apCode (rpF f F k) (F k) = 0) := Lib.hid h0
        have HA := Lib.hid (fun fb w B => l07Apply_any (rpF f F k) hf9 hok9 (F k) (HF.out k hlt) fb w B)
        have HGO := Lib.hid (rpW_go hW9 h0)
        obtain ⟨_, _, _, _, _, _, _, q1, q2⟩ := ap_zero hok9 h0
        obtain ⟨q, hq⟩ : ∃ q : Nat, F k 0 = (q : Int) := ⟨(F k 0).toNat, by omega⟩
        have hq4 : q < 4 := by omega
        have HQ := Lib.hid hq
        obtain ⟨s1, s2⟩ := rpS_le HF.out k hk q
        obtain ⟨t1, t2⟩ := (HF.out k hlt).b2
        clear h0 q1 q2 hq hok9 hf9
        go_upto_region 8 with (first
          | (refine wpList_load_part rfl 50 _ rfl _ _ rfl (srow ksEntry F k) _ hr Tryd.underlying50 rfl (by rw [srow_size]; kernel_rfl) ?_)
          | (go_at_call 27; refine (HA.out w.heap.size _ (M.at 0 rfl)).mono ?_; rintro e W2 ⟨rfl, hg, hB⟩; rw [HC.out]; have M2 := ap_mem M rfl hg hB; clear hg hB hr M))
        have hcv : IntKind.i64.wrap (F k 2) = F k 2 := wrap_i64R (by omega) (by omega)
        have had : IntKind.i64.wrap (rpS F k q + F k 2) = rpS F k q + F k 2 := wrap_i64R (by omega) (by omega)
        refine wp_region_rel_tail 15 (DL [dV (.slice (some ⟨b, o, none⟩) n c), dV (.int .i64 (k : Int)), dV (.pointer (some ⟨b, o + k * 3, none⟩)), dV (.pointer (some ⟨b, o + k * 3, none⟩)), dV (.int .i8 (q : Int)), dV (.pointer (some ⟨w.heap.size + 1 + 1 + 1, q, none⟩)), dV (.int .i64 (rpS F k q)), dV (.slice (some ⟨b, o, none⟩) n c), dV (.int .i64 (k : Int)), dV (.pointer (some ⟨b, o + k * 3, none⟩)), dV (.pointer (some ⟨b, o + k * 3 + 2, none⟩)), dV (.int .i16 (F k 2)), dV (.int .i64 (F k 2)), dV (.int .i64 (rpS F k q + F k 2)), dV (.pointer (some ⟨w.heap.size + 1 + 1 + 1, q, none⟩))]) (fun w' => Mem w w' [⟨w.heap.size, fcells (apField (rpF f F k) (F k)), 30⟩, ⟨w.heap.size + 1, Tryd.zeroCells30, 30⟩, ⟨w.heap.size + 1 + 1, acells .i64 4 (fun _ => 0), 31⟩, ⟨w.heap.size + 1 + 1 + 1, acells .i64 4 (rpS F k), 31⟩]) (by kernel_rfl) (by kernel_rfl) grows_mem
          (stays_DL (fun d hd => by
            simp only [List.mem_cons, List.mem_nil_iff, or_false] at hd
            rcases hd with rfl | rfl | rfl | rfl | rfl | rfl | rfl | rfl | rfl | rfl | rfl | rfl | rfl | rfl | rfl <;> exact stay_V)) M2.drew ?_
        refine rel_val _ rfl rfl (fun _ _ => rfl) (fun _ => ?_)
        simp only [Act.put, List.setIfInBounds_toArray, List.set_cons_zero, List.set_cons_succ]
        refine rel_val _ rfl rfl (fun _ _ => rfl) (fun _ => ?_)
        simp only [Act.put, List.setIfInBounds_toArray, List.set_cons_zero, List.set_cons_succ]
        refine rel_index 35 50 _ _ rfl b o n c 3 k rfl rfl hlt Tryd.underlying35 (by kernel_rfl) rfl rfl (fun _ => ?_)
        simp only [Act.put, List.setIfInBounds_toArray, List.set_cons_zero, List.set_cons_succ]
        refine rel_val (.pointer (some ⟨b, o + k * 3, none⟩)) rfl rfl (fun _ _ => by simp [execOp, Act.eval, go_sem]) (fun _ => ?_)
        simp only [Act.put, List.setIfInBounds_toArray, List.set_cons_zero, List.set_cons_succ]
        refine rel_cell 22 _ rfl (b) (o + k * 3) rfl (.int .i8 (q : Int)) rfl rfl (fun w' c => load_i8R _ _ _ w' c) (fun w' hw' => by have h := (HI.out.later hw'.below) k hlt 0 (.int .i8 (F k 0)) rfl; rw [HQ.out] at h; simpa using h) (fun _ => ?_)
        simp only [Act.put, List.setIfInBounds_toArray, List.set_cons_zero, List.set_cons_succ]
        refine rel_val (.pointer (some ⟨w.heap.size + 1 + 1 + 1, q, none⟩)) rfl rfl (fun w' _ => idxA4 rfl _ q rfl rfl hq4 w') (fun _ => ?_)
        simp only [Act.put, List.setIfInBounds_toArray, List.set_cons_zero, List.set_cons_succ]
        refine rel_cell 2 _ rfl (w.heap.size + 1 + 1 + 1) (q) rfl (.int .i64 (rpS F k q)) rfl rfl (fun w' c => load_i64R _ _ _ w' c) (fun w' hw' => (hw'.at 3 rfl).cell (acells_get _ _ _ q hq4)) (fun _ => ?_)
        simp only [Act.put, List.setIfInBounds_toArray, List.set_cons_zero, List.set_cons_succ]
        refine rel_val _ rfl rfl (fun _ _ => rfl) (fun _ => ?_)
        simp only [Act.put, List.setIfInBounds_toArray, List.set_cons_zero, List.set_cons_succ]
        refine rel_val _ rfl rfl (fun _ _ => rfl) (fun _ => ?_)
        simp only [Act.put, List.setIfInBounds_toArray, List.set_cons_zero, List.set_cons_succ]
        refine rel_index 35 50 _ _ rfl b o n c 3 k rfl rfl hlt Tryd.underlying35 (by kernel_rfl) rfl rfl (fun _ => ?_)
        simp only [Act.put, List.setIfInBounds_toArray, List.set_cons_zero, List.set_cons_succ]
        refine rel_val (.pointer (some ⟨b, o + k * 3 + 2, none⟩)) rfl rfl (fun _ _ => by simp [execOp, Act.eval, go_sem]) (fun _ => ?_)
        simp only [Act.put, List.setIfInBounds_toArray, List.set_cons_zero, List.set_cons_succ]
        refine rel_cell 24 _ rfl (b) (o + k * 3 + 2) rfl (.int .i16 (F k 2)) rfl rfl (fun w' c => load_i16R _ _ _ w' c) (fun w' hw' => by have h := (HI.out.later hw'.below) k hlt 2 (.int .i16 (F k 2)) rfl; simpa using h) (fun _ => ?_)
        simp only [Act.put, List.setIfInBounds_toArray, List.set_cons_zero, List.set_cons_succ]
        refine rel_val (.int .i64 (F k 2)) rfl rfl (fun w' _ => by simp [execOp, Act.eval, go_sem, hcv]) (fun _ => ?_)
        simp only [Act.put, List.setIfInBounds_toArray, List.set_cons_zero, List.set_cons_succ]
        refine rel_val (.int .i64 (rpS F k q + F k 2)) rfl rfl (fun w' _ => by simp [execOp, Act.eval, go_sem, had]) (fun _ => ?_)
        simp only [Act.put, List.setIfInBounds_toArray, List.set_cons_zero, List.set_cons_succ]
        refine rel_val (.pointer (some ⟨w.heap.size + 1 + 1 + 1, q, none⟩)) rfl rfl (fun w' _ => idxA4 rfl _ q rfl rfl hq4 w') (fun _ => ?_)
        simp only [Act.put, List.setIfInBounds_toArray, List.set_cons_zero, List.set_cons_succ]
        refine rel_nil (fun W6 inv => ?_)
        have M6 := inv.cls
        clear inv M2 hcv had
        have d6 := (M6.at 3 rfl).cell (acells_get .i64 4 (rpS F k) q hq4)
        have f6 := (M6.at 3 rfl).free q
        have M7 := M6.set 3 q (.int .i64 (rpS F k q + F k 2)) rfl _ (acells_set .i64 4 (rpS F k) q (rpS F k q + F k 2) hq4)
        have e7 : acells .i64 4 (fun j => if j = q then rpS F k q + F k 2 else rpS F k j) = acells .i64 4 (rpS F (k + 1)) := by
          show _ = acells .i64 4 (fun j => if j = (F k 0).toNat then rpS F k (F k 0).toNat + F k 2 else rpS F k j)
          rw [HQ.out]; rfl
        rw [e7] at M7
        have HM7 := Lib.hid M7
        clear M6 M7 e7
        change wpList _ _ _ [_] _ _
        go_wp2_with fail
        go_roundw
        case rel => exact ⟨k + 1, by omega, by go_num, HGO.out, HM7.out⟩
        case measure => simp [intOf]; omega
      · have HC : Hid (apCode (rpF f F k) (F k) = c9) := Lib.hid hc
        have HA := Lib.hid (fun fb w B => l07Apply_any (rpF f F k) hf9 hok9 (F k) (HF.out k hlt) fb w B)
        have HB := Lib.hid (ro_bad hlt hW9 (by rw [hc]; omega))
        rw [hc] at HB
        have hcb : ((c9 : Int) != 0) = true := by simpa using (show (c9 : Int) ≠ 0 by omega)
        clear hok9 hf9 hc
        go_wp2_with (first
          | (refine wpList_load_part rfl 50 _ rfl _ _ rfl (srow ksEntry F k) _ hr Tryd.underlying50 rfl (by rw [srow_size]; kernel_rfl) ?_)
          | (go_at_call 27; refine (HA.out w.heap.size _ (M.at 0 rfl)).mono ?_; rintro e W2 ⟨rfl, hg, hB⟩; rw [HC.out]; have M2 := ap_mem M rfl hg hB; clear hg hB hr M)
          | (refine wpList_store_row rfl 30 _ _ rfl (w.heap.size + 1) Tryd.zeroCells30 rfl rfl 30 _ (M2.at 1 rfl) (by rw [hz.out]; exact sizeFd) (by rw [hz.out]) hz1.out ?_; have MX := M2.row 1 rfl Tryd.zeroCells30; clear M2)
          | (refine wpList_store_row rfl 31 _ _ rfl (w.heap.size + 1 + 1) (acells .i64 4 (fun _ => 0)) rfl rfl 31 _ (MX.at 2 rfl) (by rw [acells_size]; exact size4) (by simp only [acells_size]) (acells_one _ _ _) ?_; have MY := MX.row 2 rfl (acells .i64 4 (fun _ => 0)); clear MX))
        exact bodyPost_ret (results_row2_tmp2 rfl _ _ (w.heap.size + 1) (w.heap.size + 1 + 1) 30 31 _ _ _ _ rfl rfl (MY.at 1 rfl) (MY.at 2 rfl) Tryd.underlying30 rfl (by rw [hz.out]; exact sizeFd) Tryd.underlying31 rfl (by rw [acells_size]; exact size4)) rfl ⟨by rw [HB.out.1, HB.out.2.1, HB.out.2.2.1, HB.out.2.2.2]; rfl, MY.below⟩
    · obtain rfl : k = n := by omega
      have HG := Lib.hid (ro_good hW9)
      go_upto_region 9 with (fail)
      have a0 : ∀ X, Mem w X [⟨w.heap.size, fcells (rpF f F k), 30⟩, ⟨w.heap.size + 1, Tryd.zeroCells30, 30⟩, ⟨w.heap.size + 1 + 1, acells .i64 4 (fun _ => 0), 31⟩, ⟨w.heap.size + 1 + 1 + 1, acells .i64 4 (rpS F k), 31⟩] → (Instr.loadAt 30 (.pointer (some ⟨w.heap.size, 0, none⟩))).run Tryd.prog X = .ok (.agg (fcells (rpF f F k))) X := fun X MX => run_loadAt_part _ _ 0 30 (fcells (rpF f F k)) _ (MX.at 0 rfl).whole Tryd.underlying30 rfl (by rw [fcells_size]; exact sizeFd)
      have b0 : ∀ X, Mem w X [⟨w.heap.size, fcells (rpF f F k), 30⟩, ⟨w.heap.size + 1, Tryd.zeroCells30, 30⟩, ⟨w.heap.size + 1 + 1, acells .i64 4 (fun _ => 0), 31⟩, ⟨w.heap.size + 1 + 1 + 1, acells .i64 4 (rpS F k), 31⟩] → (Instr.loadAt 31 (.pointer (some ⟨w.heap.size + 1 + 1 + 1, 0, none⟩))).run Tryd.prog X = .ok (.agg (acells .i64 4 (rpS F k))) X := fun X MX => run_loadAt_part _ _ 0 31 (acells .i64 4 (rpS F k)) _ (MX.at 3 rfl).whole Tryd.underlying31 rfl (by rw [acells_size]; exact size4)
      have b1 : ∀ X, Mem w X [⟨w.heap.size, fcells (rpF f F k), 30⟩, ⟨w.heap.size + 1, fcells (rpF f F k), 30⟩, ⟨w.heap.size + 1 + 1, acells .i64 4 (fun _ => 0), 31⟩, ⟨w.heap.size + 1 + 1 + 1, acells .i64 4 (rpS F k), 31⟩] → (Instr.loadAt 31 (.pointer (some ⟨w.heap.size + 1 + 1 + 1, 0, none⟩))).run Tryd.prog X = .ok (.agg (acells .i64 4 (rpS F k))) X := fun X MX => run_loadAt_part _ _ 0 31 (acells .i64 4 (rpS F k)) _ (MX.at 3 rfl).whole Tryd.underlying31 rfl (by rw [acells_size]; exact size4)
      have s0 : ∀ X, Mem w X [⟨w.heap.size, fcells (rpF f F k), 30⟩, ⟨w.heap.size + 1, Tryd.zeroCells30, 30⟩, ⟨w.heap.size + 1 + 1, acells .i64 4 (fun _ => 0), 31⟩, ⟨w.heap.size + 1 + 1 + 1, acells .i64 4 (rpS F k), 31⟩] → ∃ Y, (Instr.storeAt 30 (.pointer (some ⟨w.heap.size + 1, 0, none⟩)) (.agg (fcells (rpF f F k)))).run Tryd.prog X = .ok () Y ∧ Mem w Y [⟨w.heap.size, fcells (rpF f F k), 30⟩, ⟨w.heap.size + 1, fcells (rpF f F k), 30⟩, ⟨w.heap.size + 1 + 1, acells .i64 4 (fun _ => 0), 31⟩, ⟨w.heap.size + 1 + 1 + 1, acells .i64 4 (rpS F k), 31⟩] := fun X MX => ⟨_, run_storeAt_mid (P := Tryd.prog) X (w.heap.size + 1) 0 30 (fcells (rpF f F k)) ((MX.at 1 rfl).there 0 _ (by rw [hz.out, fcells_size]; omega)) (by rw [fcells_size]; exact sizeFd) (fcells_one _), MX.cells 1 0 (fcells (rpF f F k)).toList rfl (fcells (rpF f F k)) ((MX.at 1 rfl).over (fcells (rpF f F k)) (by rw [hz.out, fcells_size]))⟩
      have s1 : ∀ X, Mem w X [⟨w.heap.size, fcells (rpF f F k), 30⟩, ⟨w.heap.size + 1, fcells (rpF f F k), 30⟩, ⟨w.heap.size + 1 + 1, acells .i64 4 (fun _ => 0), 31⟩, ⟨w.heap.size + 1 + 1 + 1, acells .i64 4 (rpS F k), 31⟩] → ∃ Y, (Instr.storeAt 31 (.pointer (some ⟨w.heap.size + 1 + 1, 0, none⟩)) (.agg (acells .i64 4 (rpS F k)))).run Tryd.prog X = .ok () Y ∧ Mem w Y [⟨w.heap.size, fcells (rpF f F k), 30⟩, ⟨w.heap.size + 1, fcells (rpF f F k), 30⟩, ⟨w.heap.size + 1 + 1, acells .i64 4 (rpS F k), 31⟩, ⟨w.heap.size + 1 + 1 + 1, acells .i64 4 (rpS F k), 31⟩] := fun X MX => ⟨_, run_storeAt_mid (P := Tryd.prog) X (w.heap.size + 1 + 1) 0 31 (acells .i64 4 (rpS F k)) ((MX.at 2 rfl).there 0 _ (by simp only [acells_size]; omega)) (by rw [acells_size]; exact size4) (acells_one _ _ _), MX.cells 2 0 (acells .i64 4 (rpS F k)).toList rfl (acells .i64 4 (rpS F k)) ((MX.at 2 rfl).over (acells .i64 4 (rpS F k)) (by simp only [acells_size]))⟩
      have MM := M.drew
      clear M
      refine wp_region_any (by kernel_rfl) ?_
      refine wpAny_all (rs := [0, 1]) (by kernel_rfl) (by decide) (two_of7 ?_ ?_)
      · refine any_val7 (.agg (fcells (rpF f F k))) 44 rfl rfl rfl (exec_load7 rfl rfl (a0 _ MM)) ?_
        simp only [Act.put]
        refine wpAny_all (rs := [1, 2]) (by kernel_rfl) (by decide) (two_of7 ?_ ?_)
        · refine any_val7 (.agg (acells .i64 4 (rpS F k))) 45 rfl rfl rfl (exec_load7 rfl rfl (b0 _ MM)) ?_
          simp only [Act.put]
          refine wpAny_all (rs := [2]) (by kernel_rfl) (by decide) (one_of7 ?_)
          obtain ⟨Y, hY, MM⟩ := s0 _ MM
          refine any_skip7 rfl rfl (exec_store7 rfl rfl rfl hY) ?_
          simp only [Act.put]
          refine wpAny_all (rs := [3]) (by kernel_rfl) (by decide) (one_of7 ?_)
          obtain ⟨Y, hY, MM⟩ := s1 _ MM
          refine any_skip7 rfl rfl (exec_store7 rfl rfl rfl hY) ?_
          simp only [Act.put]
          refine wpAny_all (rs := [4]) (by kernel_rfl) (by decide) (one_of7 ?_)
          refine any_val7 (.int .i64 (-1)) 6 rfl rfl rfl (rfl) ?_
          simp only [Act.put]
          refine wpAny_all (rs := [5]) (by kernel_rfl) (by decide) (one_of7 ?_)
          refine any_val7 (.int .i64 0) 7 rfl rfl rfl (rfl) ?_
          simp only [Act.put]
          refine wpAny_done (by kernel_rfl) ?_ _
          go_wp2_with fail
          exact bodyPost_ret (results_row2_tmp2 rfl _ _ (w.heap.size + 1) (w.heap.size + 1 + 1) 30 31 _ _ _ _ rfl rfl (MM.at 1 rfl) (MM.at 2 rfl) Tryd.underlying30 rfl (by rw [fcells_size]; exact sizeFd) Tryd.underlying31 rfl (by rw [acells_size]; exact size4)) rfl ⟨by rw [HG.out.1, HG.out.2.1, HG.out.2.2.1, HG.out.2.2.2]; rfl, MM.below⟩
        · obtain ⟨Y, hY, MM⟩ := s0 _ MM
          refine any_skip7 rfl rfl (exec_store7 rfl rfl rfl hY) ?_
          simp only [Act.put]
          refine wpAny_all (rs := [1]) (by kernel_rfl) (by decide) (one_of7 ?_)
          refine any_val7 (.agg (acells .i64 4 (rpS F k))) 45 rfl rfl rfl (exec_load7 rfl rfl (b1 _ MM)) ?_
          simp only [Act.put]
          refine wpAny_all (rs := [3]) (by kernel_rfl) (by decide) (one_of7 ?_)
          obtain ⟨Y, hY, MM⟩ := s1 _ MM
          refine any_skip7 rfl rfl (exec_store7 rfl rfl rfl hY) ?_
          simp only [Act.put]
          refine wpAny_all (rs := [4]) (by kernel_rfl) (by decide) (one_of7 ?_)
          refine any_val7 (.int .i64 (-1)) 6 rfl rfl rfl (rfl) ?_
          simp only [Act.put]
          refine wpAny_all (rs := [5]) (by kernel_rfl) (by decide) (one_of7 ?_)
          refine any_val7 (.int .i64 0) 7 rfl rfl rfl (rfl) ?_
          simp only [Act.put]
          refine wpAny_done (by kernel_rfl) ?_ _
          go_wp2_with fail
          exact bodyPost_ret (results_row2_tmp2 rfl _ _ (w.heap.size + 1) (w.heap.size + 1 + 1) 30 31 _ _ _ _ rfl rfl (MM.at 1 rfl) (MM.at 2 rfl) Tryd.underlying30 rfl (by rw [fcells_size]; exact sizeFd) Tryd.underlying31 rfl (by rw [acells_size]; exact size4)) rfl ⟨by rw [HG.out.1, HG.out.2.1, HG.out.2.2.1, HG.out.2.2.2]; rfl, MM.below⟩
      · refine any_val7 (.agg (acells .i64 4 (rpS F k))) 45 rfl rfl rfl (exec_load7 rfl rfl (b0 _ MM)) ?_
        simp only [Act.put]
        refine wpAny_all (rs := [0]) (by kernel_rfl) (by decide) (one_of7 ?_)
        refine any_val7 (.agg (fcells (rpF f F k))) 44 rfl rfl rfl (exec_load7 rfl rfl (a0 _ MM)) ?_
        simp only [Act.put]
        refine wpAny_all (rs := [2]) (by kernel_rfl) (by decide) (one_of7 ?_)
        obtain ⟨Y, hY, MM⟩ := s0 _ MM
        refine any_skip7 rfl rfl (exec_store7 rfl rfl rfl hY) ?_
        simp only [Act.put]
        refine wpAny_all (rs := [3]) (by kernel_rfl) (by decide) (one_of7 ?_)
        obtain ⟨Y, hY, MM⟩ := s1 _ MM
        refine any_skip7 rfl rfl (exec_store7 rfl rfl rfl hY) ?_
        simp only [Act.put]
        refine wpAny_all (rs := [4]) (by kernel_rfl) (by decide) (one_of7 ?_)
        refine any_val7 (.int .i64 (-1)) 6 rfl rfl rfl (rfl) ?_
        simp only [Act.put]
        refine wpAny_all (rs := [5]) (by kernel_rfl) (by decide) (one_of7 ?_)
        refine any_val7 (.int .i64 0) 7 rfl rfl rfl (rfl) ?_
        simp only [Act.put]
        refine wpAny_done (by kernel_rfl) ?_ _
        go_wp2_with fail
        exact bodyPost_ret (results_row2_tmp2 rfl _ _ (w.heap.size + 1) (w.heap.size + 1 + 1) 30 31 _ _ _ _ rfl rfl (MM.at 1 rfl) (MM.at 2 rfl) Tryd.underlying30 rfl (by rw [fcells_size]; exact sizeFd) Tryd.underlying31 rfl (by rw [acells_size]; exact size4)) rfl ⟨by rw [HG.out.1, HG.out.2.1, HG.out.2.2.1, HG.out.2.2.2]; rfl, MM.below⟩
set_option maxRecDepth 100000 in
set_option maxHeartbeats 8000000 in
theorem specReplayDiary (f : Fd) (hf : f.Wf) (n : Nat) (hn : n ≤ 2 ^ 40) (F : Nat → Nat → Int) (hF : ∀ i, i < n → WfEn (F i)) (b o c : Nat) (w : World) (I : InS w b o n ksEntry F) :
    Calls Tryd.prog 6 #[.agg (fcells f), .slice (some ⟨b, o, none⟩) n c] w fun e w' => e = .returned (.tuple #[.agg (fcells (rdF f n F)), .agg (acells .i64 4 (rdS f n F)), .int .i64 (rdCode f n F)]) ∧ Below w.heap.size w w' := by
  have HI := Lib.hid I
  clear I
  have hz : Hid (Tryd.zeroCells30.size = 202) := Lib.hid (by rw [zeroFd, fcells_size])
  have hz1 : Hid (Tryd.zeroCells30.all (·.oneCell') = true) := Lib.hid (by rw [zeroFd]; exact fcells_one _)
  have HDI := Lib.hid (fun fb w B => l07Diary_any f hf fb (some ⟨b, o, none⟩) n c hn w B)
  by_cases hgood : okF f = true ∧ n ≤ 100
  · obtain ⟨hok, hn1⟩ := hgood
    have hdi : diC f n = 0 := by unfold diC; rw [hok, if_pos rfl, if_neg (by omega)]
    have h1 : rdF f n F = roF f n F := by unfold rdF; rw [if_pos ⟨hok, hn1⟩]
    have h2 : rdS f n F = roS f n F := by unfold rdS; rw [if_pos ⟨hok, hn1⟩]
    have h3 : rdCode f n F = roCode f n F := by unfold rdCode; rw [hok, if_pos rfl, if_neg (by omega)]
    rw [h1, h2, h3]
    rw [hdi] at HDI
    have HR := Lib.hid (fun w I => l07Replay_any f hf hok n hn1 F hF b o c w I)
    obtain ⟨FF, hFF⟩ : ∃ FF, roF f n F = FF := ⟨_, rfl⟩
    obtain ⟨S9, hS9⟩ : ∃ S9, roS f n F = S9 := ⟨_, rfl⟩
    obtain ⟨c9, hc9⟩ : ∃ c9, roCode f n F = c9 := ⟨_, rfl⟩
    rw [hFF, hS9, hc9] at HR ⊢
    clear hF hdi h1 h2 h3 hFF hS9 hc9 hok
    go_enter Tryd.func6, Tryd.ntmps6
    go_upto_region 1 with (fail)
    obtain ⟨W, hW, M⟩ := open3 w (fcells f) 30 Tryd.zeroCells30 30 (acells .i64 4 (fun _ => 0)) 31
    rw [zero4] at hW
    rw [hW]; clear hW
    go_upto_region 5 with (first
      | (go_at_call 15; refine (HDI.out w.heap.size _ (M.at 0 rfl)).mono ?_; rintro e w1 ⟨rfl, rfl⟩)
      | (refine wpList_load_part rfl 30 _ rfl w.heap.size 0 rfl (fcells f) _ (M.at 0 rfl).whole Tryd.underlying30 rfl (by rw [fcells_size]; exact sizeFd) ?_)
      | (go_at_call 16; refine (HR.out _ (HI.out.later M.below)).mono ?_; rintro e W2 ⟨rfl, hb⟩; have M2 := M.call hb; clear hb M; have MA := (M2.alloc Tryd.zeroCells30 30).alloc #[.int .i64 0, .int .i64 0, .int .i64 0, .int .i64 0] 31)
      | (refine wpList_store_row rfl 30 _ _ rfl W2.heap.size (fcells FF) rfl rfl 30 _ (MA.at 3 rfl) (by rw [fcells_size]; exact sizeFd) (by rw [hz.out, fcells_size]) (fcells_one _) ?_; have MB := MA.row 3 rfl (fcells FF); clear MA)
      | (refine wpList_store_row rfl 31 _ _ rfl (W2.heap.size + 1) (acells .i64 4 S9) rfl rfl 31 _ (MB.at 4 (by simp only [World.size_alloc]; rfl)) (by rw [acells_size]; exact size4) (by rw [acells_size]; rfl) (acells_one _ _ _) ?_; have MC := MB.row 4 rfl (acells .i64 4 S9); clear MB))
    simp only [World.size_alloc] at MC
    obtain ⟨nb, hnb⟩ : ∃ nb, W2.heap.size = nb := ⟨_, rfl⟩
    rw [hnb] at MC ⊢
    generalize World.setRow _ _ _ = V7 at MC ⊢
    have M7 : Mem w V7 [⟨w.heap.size, fcells f, 30⟩, ⟨w.heap.size + 1, Tryd.zeroCells30, 30⟩, ⟨w.heap.size + 1 + 1, (acells .i64 4 (fun _ => 0)), 31⟩, ⟨nb, fcells FF, 30⟩, ⟨nb + 1, acells .i64 4 S9, 31⟩] := MC
    clear MC hnb
    have a0 : ∀ X, Mem w X [⟨w.heap.size, fcells f, 30⟩, ⟨w.heap.size + 1, Tryd.zeroCells30, 30⟩, ⟨w.heap.size + 1 + 1, acells .i64 4 (fun _ => 0), 31⟩, ⟨nb, fcells FF, 30⟩, ⟨nb + 1, acells .i64 4 S9, 31⟩] → (Instr.loadAt 30 (.pointer (some ⟨nb, 0, none⟩))).run Tryd.prog X = .ok (.agg (fcells FF)) X := fun X MX => run_loadAt_part _ _ 0 30 (fcells FF) _ (MX.at 3 rfl).whole Tryd.underlying30 rfl (by rw [fcells_size]; exact sizeFd)
    have b0 : ∀ X, Mem w X [⟨w.heap.size, fcells f, 30⟩, ⟨w.heap.size + 1, Tryd.zeroCells30, 30⟩, ⟨w.heap.size + 1 + 1, acells .i64 4 (fun _ => 0), 31⟩, ⟨nb, fcells FF, 30⟩, ⟨nb + 1, acells .i64 4 S9, 31⟩] → (Instr.loadAt 31 (.pointer (some ⟨nb + 1, 0, none⟩))).run Tryd.prog X = .ok (.agg (acells .i64 4 S9)) X := fun X MX => run_loadAt_part _ _ 0 31 (acells .i64 4 S9) _ (MX.at 4 rfl).whole Tryd.underlying31 rfl (by rw [acells_size]; exact size4)
    have b1 : ∀ X, Mem w X [⟨w.heap.size, fcells f, 30⟩, ⟨w.heap.size + 1, fcells FF, 30⟩, ⟨w.heap.size + 1 + 1, acells .i64 4 (fun _ => 0), 31⟩, ⟨nb, fcells FF, 30⟩, ⟨nb + 1, acells .i64 4 S9, 31⟩] → (Instr.loadAt 31 (.pointer (some ⟨nb + 1, 0, none⟩))).run Tryd.prog X = .ok (.agg (acells .i64 4 S9)) X := fun X MX => run_loadAt_part _ _ 0 31 (acells .i64 4 S9) _ (MX.at 4 rfl).whole Tryd.underlying31 rfl (by rw [acells_size]; exact size4)
    have s0 : ∀ X, Mem w X [⟨w.heap.size, fcells f, 30⟩, ⟨w.heap.size + 1, Tryd.zeroCells30, 30⟩, ⟨w.heap.size + 1 + 1, acells .i64 4 (fun _ => 0), 31⟩, ⟨nb, fcells FF, 30⟩, ⟨nb + 1, acells .i64 4 S9, 31⟩] → ∃ Y, (Instr.storeAt 30 (.pointer (some ⟨w.heap.size + 1, 0, none⟩)) (.agg (fcells FF))).run Tryd.prog X = .ok () Y ∧ Mem w Y [⟨w.heap.size, fcells f, 30⟩, ⟨w.heap.size + 1, fcells FF, 30⟩, ⟨w.heap.size + 1 + 1, acells .i64 4 (fun _ => 0), 31⟩, ⟨nb, fcells FF, 30⟩, ⟨nb + 1, acells .i64 4 S9, 31⟩] := fun X MX => ⟨_, run_storeAt_mid (P := Tryd.prog) X (w.heap.size + 1) 0 30 (fcells FF) ((MX.at 1 rfl).there 0 _ (by rw [hz.out, fcells_size]; omega)) (by rw [fcells_size]; exact sizeFd) (fcells_one _), MX.cells 1 0 (fcells FF).toList rfl (fcells FF) ((MX.at 1 rfl).over (fcells FF) (by rw [hz.out, fcells_size]))⟩
    have s1 : ∀ X, Mem w X [⟨w.heap.size, fcells f, 30⟩, ⟨w.heap.size + 1, fcells FF, 30⟩, ⟨w.heap.size + 1 + 1, acells .i64 4 (fun _ => 0), 31⟩, ⟨nb, fcells FF, 30⟩, ⟨nb + 1, acells .i64 4 S9, 31⟩] → ∃ Y, (Instr.storeAt 31 (.pointer (some ⟨w.heap.size + 1 + 1, 0, none⟩)) (.agg (acells .i64 4 S9))).run Tryd.prog X = .ok () Y ∧ Mem w Y [⟨w.heap.size, fcells f, 30⟩, ⟨w.heap.size + 1, fcells FF, 30⟩, ⟨w.heap.size + 1 + 1, acells .i64 4 S9, 31⟩, ⟨nb, fcells FF, 30⟩, ⟨nb + 1, acells .i64 4 S9, 31⟩] := fun X MX => ⟨_, run_storeAt_mid (P := Tryd.prog) X (w.heap.size + 1 + 1) 0 31 (acells .i64 4 S9) ((MX.at 2 rfl).there 0 _ (by simp only [acells_size]; omega)) (by rw [acells_size]; exact size4) (acells_one _ _ _), MX.cells 2 0 (acells .i64 4 S9).toList rfl (acells .i64 4 S9) ((MX.at 2 rfl).over (acells .i64 4 S9) (by simp only [acells_size]))⟩
    have MM := M7.drew
    clear M7
    refine wp_region_any (by kernel_rfl) ?_
    refine wpAny_all (rs := [0, 1, 2]) (by kernel_rfl) (by decide) (three_of7 ?_ ?_ ?_)
    · refine any_val7 (.agg (fcells FF)) 27 rfl rfl rfl (exec_load7 rfl rfl (a0 _ MM)) ?_
      simp only [Act.put]
      refine wpAny_all (rs := [1, 2, 3]) (by kernel_rfl) (by decide) (three_of7 ?_ ?_ ?_)
      · refine any_val7 (.agg (acells .i64 4 S9)) 28 rfl rfl rfl (exec_load7 rfl rfl (b0 _ MM)) ?_
        simp only [Act.put]
        refine wpAny_all (rs := [2, 3]) (by kernel_rfl) (by decide) (two_of7 ?_ ?_)
        · refine any_val7 (.int .i64 c9) 29 rfl rfl rfl (rfl) ?_
          simp only [Act.put]
          refine wpAny_all (rs := [3]) (by kernel_rfl) (by decide) (one_of7 ?_)
          obtain ⟨Y, hY, MM⟩ := s0 _ MM
          refine any_skip7 rfl rfl (exec_store7 rfl rfl rfl hY) ?_
          simp only [Act.put]
          refine wpAny_all (rs := [4]) (by kernel_rfl) (by decide) (one_of7 ?_)
          obtain ⟨Y, hY, MM⟩ := s1 _ MM
          refine any_skip7 rfl rfl (exec_store7 rfl rfl rfl hY) ?_
          simp only [Act.put]
          refine wpAny_all (rs := [5]) (by kernel_rfl) (by decide) (one_of7 ?_)
          refine any_val7 (.int .i64 c9) 6 rfl rfl rfl (rfl) ?_
          simp only [Act.put]
          refine wpAny_done (by kernel_rfl) ?_ _
          go_wp2_with fail
          exact bodyPost_ret (results_row2_tmp rfl _ _ (w.heap.size + 1) (w.heap.size + 1 + 1) 30 31 _ _ _ _ rfl rfl (MM.at 1 rfl) (MM.at 2 rfl) Tryd.underlying30 rfl (by rw [fcells_size]; exact sizeFd) Tryd.underlying31 rfl (by rw [acells_size]; exact size4)) rfl ⟨rfl, MM.below⟩
        · obtain ⟨Y, hY, MM⟩ := s0 _ MM
          refine any_skip7 rfl rfl (exec_store7 rfl rfl rfl hY) ?_
          simp only [Act.put]
          refine wpAny_all (rs := [2, 4]) (by kernel_rfl) (by decide) (two_of7 ?_ ?_)
          · refine any_val7 (.int .i64 c9) 29 rfl rfl rfl (rfl) ?_
            simp only [Act.put]
            refine wpAny_all (rs := [4]) (by kernel_rfl) (by decide) (one_of7 ?_)
            obtain ⟨Y, hY, MM⟩ := s1 _ MM
            refine any_skip7 rfl rfl (exec_store7 rfl rfl rfl hY) ?_
            simp only [Act.put]
            refine wpAny_all (rs := [5]) (by kernel_rfl) (by decide) (one_of7 ?_)
            refine any_val7 (.int .i64 c9) 6 rfl rfl rfl (rfl) ?_
            simp only [Act.put]
            refine wpAny_done (by kernel_rfl) ?_ _
            go_wp2_with fail
            exact bodyPost_ret (results_row2_tmp rfl _ _ (w.heap.size + 1) (w.heap.size + 1 + 1) 30 31 _ _ _ _ rfl rfl (MM.at 1 rfl) (MM.at 2 rfl) Tryd.underlying30 rfl (by rw [fcells_size]; exact sizeFd) Tryd.underlying31 rfl (by rw [acells_size]; exact size4)) rfl ⟨rfl, MM.below⟩
          · obtain ⟨Y, hY, MM⟩ := s1 _ MM
            refine any_skip7 rfl rfl (exec_store7 rfl rfl rfl hY) ?_
            simp only [Act.put]
            refine wpAny_all (rs := [2]) (by kernel_rfl) (by decide) (one_of7 ?_)
            refine any_val7 (.int .i64 c9) 29 rfl rfl rfl (rfl) ?_
            simp only [Act.put]
            refine wpAny_all (rs := [5]) (by kernel_rfl) (by decide) (one_of7 ?_)
            refine any_val7 (.int .i64 c9) 6 rfl rfl rfl (rfl) ?_
            simp only [Act.put]
            refine wpAny_done (by kernel_rfl) ?_ _
            go_wp2_with fail
            exact bodyPost_ret (results_row2_tmp rfl _ _ (w.heap.size + 1) (w.heap.size + 1 + 1) 30 31 _ _ _ _ rfl rfl (MM.at 1 rfl) (MM.at 2 rfl) Tryd.underlying30 rfl (by rw [fcells_size]; exact sizeFd) Tryd.underlying31 rfl (by rw [acells_size]; exact size4)) rfl ⟨rfl, MM.below⟩
      · refine any_val7 (.int .i64 c9) 29 rfl rfl rfl (rfl) ?_
        simp only [Act.put]
        refine wpAny_all (rs := [1, 3]) (by kernel_rfl) (by decide) (two_of7 ?_ ?_)
        · refine any_val7 (.agg (acells .i64 4 S9)) 28 rfl rfl rfl (exec_load7 rfl rfl (b0 _ MM)) ?_
          simp only [Act.put]
          refine wpAny_all (rs := [3]) (by kernel_rfl) (by decide) (one_of7 ?_)
          obtain ⟨Y, hY, MM⟩ := s0 _ MM
          refine any_skip7 rfl rfl (exec_store7 rfl rfl rfl hY) ?_
          simp only [Act.put]
          refine wpAny_all (rs := [4]) (by kernel_rfl) (by decide) (one_of7 ?_)
          obtain ⟨Y, hY, MM⟩ := s1 _ MM
          refine any_skip7 rfl rfl (exec_store7 rfl rfl rfl hY) ?_
          simp only [Act.put]
          refine wpAny_all (rs := [5]) (by kernel_rfl) (by decide) (one_of7 ?_)
          refine any_val7 (.int .i64 c9) 6 rfl rfl rfl (rfl) ?_
          simp only [Act.put]
          refine wpAny_done (by kernel_rfl) ?_ _
          go_wp2_with fail
          exact bodyPost_ret (results_row2_tmp rfl _ _ (w.heap.size + 1) (w.heap.size + 1 + 1) 30 31 _ _ _ _ rfl rfl (MM.at 1 rfl) (MM.at 2 rfl) Tryd.underlying30 rfl (by rw [fcells_size]; exact sizeFd) Tryd.underlying31 rfl (by rw [acells_size]; exact size4)) rfl ⟨rfl, MM.below⟩
        · obtain ⟨Y, hY, MM⟩ := s0 _ MM
          refine any_skip7 rfl rfl (exec_store7 rfl rfl rfl hY) ?_
          simp only [Act.put]
          refine wpAny_all (rs := [1]) (by kernel_rfl) (by decide) (one_of7 ?_)
          refine any_val7 (.agg (acells .i64 4 S9)) 28 rfl rfl rfl (exec_load7 rfl rfl (b1 _ MM)) ?_
          simp only [Act.put]
          refine wpAny_all (rs := [4]) (by kernel_rfl) (by decide) (one_of7 ?_)
          obtain ⟨Y, hY, MM⟩ := s1 _ MM
          refine any_skip7 rfl rfl (exec_store7 rfl rfl rfl hY) ?_
          simp only [Act.put]
          refine wpAny_all (rs := [5]) (by kernel_rfl) (by decide) (one_of7 ?_)
          refine any_val7 (.int .i64 c9) 6 rfl rfl rfl (rfl) ?_
          simp only [Act.put]
          refine wpAny_done (by kernel_rfl) ?_ _
          go_wp2_with fail
          exact bodyPost_ret (results_row2_tmp rfl _ _ (w.heap.size + 1) (w.heap.size + 1 + 1) 30 31 _ _ _ _ rfl rfl (MM.at 1 rfl) (MM.at 2 rfl) Tryd.underlying30 rfl (by rw [fcells_size]; exact sizeFd) Tryd.underlying31 rfl (by rw [acells_size]; exact size4)) rfl ⟨rfl, MM.below⟩
      · obtain ⟨Y, hY, MM⟩ := s0 _ MM
        refine any_skip7 rfl rfl (exec_store7 rfl rfl rfl hY) ?_
        simp only [Act.put]
        refine wpAny_all (rs := [1, 2]) (by kernel_rfl) (by decide) (two_of7 ?_ ?_)
        · refine any_val7 (.agg (acells .i64 4 S9)) 28 rfl rfl rfl (exec_load7 rfl rfl (b1 _ MM)) ?_
          simp only [Act.put]
          refine wpAny_all (rs := [2, 4]) (by kernel_rfl) (by decide) (two_of7 ?_ ?_)
          · refine any_val7 (.int .i64 c9) 29 rfl rfl rfl (rfl) ?_
            simp only [Act.put]
            refine wpAny_all (rs := [4]) (by kernel_rfl) (by decide) (one_of7 ?_)
            obtain ⟨Y, hY, MM⟩ := s1 _ MM
            refine any_skip7 rfl rfl (exec_store7 rfl rfl rfl hY) ?_
            simp only [Act.put]
            refine wpAny_all (rs := [5]) (by kernel_rfl) (by decide) (one_of7 ?_)
            refine any_val7 (.int .i64 c9) 6 rfl rfl rfl (rfl) ?_
            simp only [Act.put]
            refine wpAny_done (by kernel_rfl) ?_ _
            go_wp2_with fail
            exact bodyPost_ret (results_row2_tmp rfl _ _ (w.heap.size + 1) (w.heap.size + 1 + 1) 30 31 _ _ _ _ rfl rfl (MM.at 1 rfl) (MM.at 2 rfl) Tryd.underlying30 rfl (by rw [fcells_size]; exact sizeFd) Tryd.underlying31 rfl (by rw [acells_size]; exact size4)) rfl ⟨rfl, MM.below⟩
          · obtain ⟨Y, hY, MM⟩ := s1 _ MM
            refine any_skip7 rfl rfl (exec_store7 rfl rfl rfl hY) ?_
            simp only [Act.put]
            refine wpAny_all (rs := [2]) (by kernel_rfl) (by decide) (one_of7 ?_)
            refine any_val7 (.int .i64 c9) 29 rfl rfl rfl (rfl) ?_
            simp only [Act.put]
            refine wpAny_all (rs := [5]) (by kernel_rfl) (by decide) (one_of7 ?_)
            refine any_val7 (.int .i64 c9) 6 rfl rfl rfl (rfl) ?_
            simp only [Act.put]
            refine wpAny_done (by kernel_rfl) ?_ _
            go_wp2_with fail
            exact bodyPost_ret (results_row2_tmp rfl _ _ (w.heap.size + 1) (w.heap.size + 1 + 1) 30 31 _ _ _ _ rfl rfl (MM.at 1 rfl) (MM.at 2 rfl) Tryd.underlying30 rfl (by rw [fcells_size]; exact sizeFd) Tryd.underlying31 rfl (by rw [acells_size]; exact size4)) rfl ⟨rfl, MM.below⟩
        · refine any_val7 (.int .i64 c9) 29 rfl rfl rfl (rfl) ?_
          simp only [Act.put]
          refine wpAny_all (rs := [1]) (by kernel_rfl) (by decide) (one_of7 ?_)
          refine any_val7 (.agg (acells .i64 4 S9)) 28 rfl rfl rfl (exec_load7 rfl rfl (b1 _ MM)) ?_
          simp only [Act.put]
          refine wpAny_all (rs := [4]) (by kernel_rfl) (by decide) (one_of7 ?_)
          obtain ⟨Y, hY, MM⟩ := s1 _ MM
          refine any_skip7 rfl rfl (exec_store7 rfl rfl rfl hY) ?_
          simp only [Act.put]
          refine wpAny_all (rs := [5]) (by kernel_rfl) (by decide) (one_of7 ?_)
          refine any_val7 (.int .i64 c9) 6 rfl rfl rfl (rfl) ?_
          simp only [Act.put]
          refine wpAny_done (by kernel_rfl) ?_ _
          go_wp2_with fail
          exact bodyPost_ret (results_row2_tmp rfl _ _ (w.heap.size + 1) (w.heap.size + 1 + 1) 30 31 _ _ _ _ rfl rfl (MM.at 1 rfl) (MM.at 2 rfl) Tryd.underlying30 rfl (by rw [fcells_size]; exact sizeFd) Tryd.underlying31 rfl (by rw [acells_size]; exact size4)) rfl ⟨rfl, MM.below⟩
    · refine any_val7 (.agg (acells .i64 4 S9)) 28 rfl rfl rfl (exec_load7 rfl rfl (b0 _ MM)) ?_
      simp only [Act.put]
      refine wpAny_all (rs := [0, 2]) (by kernel_rfl) (by decide) (two_of7 ?_ ?_)
      · refine any_val7 (.agg (fcells FF)) 27 rfl rfl rfl (exec_load7 rfl rfl (a0 _ MM)) ?_
        simp only [Act.put]
        refine wpAny_all (rs := [2, 3]) (by kernel_rfl) (by decide) (two_of7 ?_ ?_)
        · refine any_val7 (.int .i64 c9) 29 rfl rfl rfl (rfl) ?_
          simp only [Act.put]
          refine wpAny_all (rs := [3]) (by kernel_rfl) (by decide) (one_of7 ?_)
          obtain ⟨Y, hY, MM⟩ := s0 _ MM
          refine any_skip7 rfl rfl (exec_store7 rfl rfl rfl hY) ?_
          simp only [Act.put]
          refine wpAny_all (rs := [4]) (by kernel_rfl) (by decide) (one_of7 ?_)
          obtain ⟨Y, hY, MM⟩ := s1 _ MM
          refine any_skip7 rfl rfl (exec_store7 rfl rfl rfl hY) ?_
          simp only [Act.put]
          refine wpAny_all (rs := [5]) (by kernel_rfl) (by decide) (one_of7 ?_)
          refine any_val7 (.int .i64 c9) 6 rfl rfl rfl (rfl) ?_
          simp only [Act.put]
          refine wpAny_done (by kernel_rfl) ?_ _
          go_wp2_with fail
          exact bodyPost_ret (results_row2_tmp rfl _ _ (w.heap.size + 1) (w.heap.size + 1 + 1) 30 31 _ _ _ _ rfl rfl (MM.at 1 rfl) (MM.at 2 rfl) Tryd.underlying30 rfl (by rw [fcells_size]; exact sizeFd) Tryd.underlying31 rfl (by rw [acells_size]; exact size4)) rfl ⟨rfl, MM.below⟩
        · obtain ⟨Y, hY, MM⟩ := s0 _ MM
          refine any_skip7 rfl rfl (exec_store7 rfl rfl rfl hY) ?_
          simp only [Act.put]
          refine wpAny_all (rs := [2, 4]) (by kernel_rfl) (by decide) (two_of7 ?_ ?_)
          · refine any_val7 (.int .i64 c9) 29 rfl rfl rfl (rfl) ?_
            simp only [Act.put]
            refine wpAny_all (rs := [4]) (by kernel_rfl) (by decide) (one_of7 ?_)
            obtain ⟨Y, hY, MM⟩ := s1 _ MM
            refine any_skip7 rfl rfl (exec_store7 rfl rfl rfl hY) ?_
            simp only [Act.put]
            refine wpAny_all (rs := [5]) (by kernel_rfl) (by decide) (one_of7 ?_)
            refine any_val7 (.int .i64 c9) 6 rfl rfl rfl (rfl) ?_
            simp only [Act.put]
            refine wpAny_done (by kernel_rfl) ?_ _
            go_wp2_with fail
            exact bodyPost_ret (results_row2_tmp rfl _ _ (w.heap.size + 1) (w.heap.size + 1 + 1) 30 31 _ _ _ _ rfl rfl (MM.at 1 rfl) (MM.at 2 rfl) Tryd.underlying30 rfl (by rw [fcells_size]; exact sizeFd) Tryd.underlying31 rfl (by rw [acells_size]; exact size4)) rfl ⟨rfl, MM.below⟩
          · obtain ⟨Y, hY, MM⟩ := s1 _ MM
            refine any_skip7 rfl rfl (exec_store7 rfl rfl rfl hY) ?_
            simp only [Act.put]
            refine wpAny_all (rs := [2]) (by kernel_rfl) (by decide) (one_of7 ?_)
            refine any_val7 (.int .i64 c9) 29 rfl rfl rfl (rfl) ?_
            simp only [Act.put]
            refine wpAny_all (rs := [5]) (by kernel_rfl) (by decide) (one_of7 ?_)
            refine any_val7 (.int .i64 c9) 6 rfl rfl rfl (rfl) ?_
            simp only [Act.put]
            refine wpAny_done (by kernel_rfl) ?_ _
            go_wp2_with fail
            exact bodyPost_ret (results_row2_tmp rfl _ _ (w.heap.size + 1) (w.heap.size + 1 + 1) 30 31 _ _ _ _ rfl rfl (MM.at 1 rfl) (MM.at 2 rfl) Tryd.underlying30 rfl (by rw [fcells_size]; exact sizeFd) Tryd.underlying31 rfl (by rw [acells_size]; exact size4)) rfl ⟨rfl, MM.below⟩
      · refine any_val7 (.int .i64 c9) 29 rfl rfl rfl (rfl) ?_
        simp only [Act.put]
        refine wpAny_all (rs := [0]) (by kernel_rfl) (by decide) (one_of7 ?_)
        refine any_val7 (.agg (fcells FF)) 27 rfl rfl rfl (exec_load7 rfl rfl (a0 _ MM)) ?_
        simp only [Act.put]
        refine wpAny_all (rs := [3]) (by kernel_rfl) (by decide) (one_of7 ?_)
        obtain ⟨Y, hY, MM⟩ := s0 _ MM
        refine any_skip7 rfl rfl (exec_store7 rfl rfl rfl hY) ?_
        simp only [Act.put]
        refine wpAny_all (rs := [4]) (by kernel_rfl) (by decide) (one_of7 ?_)
        obtain ⟨Y, hY, MM⟩ := s1 _ MM
        refine any_skip7 rfl rfl (exec_store7 rfl rfl rfl hY) ?_
        simp only [Act.put]
        refine wpAny_all (rs := [5]) (by kernel_rfl) (by decide) (one_of7 ?_)
        refine any_val7 (.int .i64 c9) 6 rfl rfl rfl (rfl) ?_
        simp only [Act.put]
        refine wpAny_done (by kernel_rfl) ?_ _
        go_wp2_with fail
        exact bodyPost_ret (results_row2_tmp rfl _ _ (w.heap.size + 1) (w.heap.size + 1 + 1) 30 31 _ _ _ _ rfl rfl (MM.at 1 rfl) (MM.at 2 rfl) Tryd.underlying30 rfl (by rw [fcells_size]; exact sizeFd) Tryd.underlying31 rfl (by rw [acells_size]; exact size4)) rfl ⟨rfl, MM.below⟩
    · refine any_val7 (.int .i64 c9) 29 rfl rfl rfl (rfl) ?_
      simp only [Act.put]
      refine wpAny_all (rs := [0, 1]) (by kernel_rfl) (by decide) (two_of7 ?_ ?_)
      · refine any_val7 (.agg (fcells FF)) 27 rfl rfl rfl (exec_load7 rfl rfl (a0 _ MM)) ?_
        simp only [Act.put]
        refine wpAny_all (rs := [1, 3]) (by kernel_rfl) (by decide) (two_of7 ?_ ?_)
        · refine any_val7 (.agg (acells .i64 4 S9)) 28 rfl rfl rfl (exec_load7 rfl rfl (b0 _ MM)) ?_
          simp only [Act.put]
          refine wpAny_all (rs := [3]) (by kernel_rfl) (by decide) (one_of7 ?_)
          obtain ⟨Y, hY, MM⟩ := s0 _ MM
          refine any_skip7 rfl rfl (exec_store7 rfl rfl rfl hY) ?_
          simp only [Act.put]
          refine wpAny_all (rs := [4]) (by kernel_rfl) (by decide) (one_of7 ?_)
          obtain ⟨Y, hY, MM⟩ := s1 _ MM
          refine any_skip7 rfl rfl (exec_store7 rfl rfl rfl hY) ?_
          simp only [Act.put]
          refine wpAny_all (rs := [5]) (by kernel_rfl) (by decide) (one_of7 ?_)
          refine any_val7 (.int .i64 c9) 6 rfl rfl rfl (rfl) ?_
          simp only [Act.put]
          refine wpAny_done (by kernel_rfl) ?_ _
          go_wp2_with fail
          exact bodyPost_ret (results_row2_tmp rfl _ _ (w.heap.size + 1) (w.heap.size + 1 + 1) 30 31 _ _ _ _ rfl rfl (MM.at 1 rfl) (MM.at 2 rfl) Tryd.underlying30 rfl (by rw [fcells_size]; exact sizeFd) Tryd.underlying31 rfl (by rw [acells_size]; exact size4)) rfl ⟨rfl, MM.below⟩
        · obtain ⟨Y, hY, MM⟩ := s0 _ MM
          refine any_skip7 rfl rfl (exec_store7 rfl rfl rfl hY) ?_
          simp only [Act.put]
          refine wpAny_all (rs := [1]) (by kernel_rfl) (by decide) (one_of7 ?_)
          refine any_val7 (.agg (acells .i64 4 S9)) 28 rfl rfl rfl (exec_load7 rfl rfl (b1 _ MM)) ?_
          simp only [Act.put]
          refine wpAny_all (rs := [4]) (by kernel_rfl) (by decide) (one_of7 ?_)
          obtain ⟨Y, hY, MM⟩ := s1 _ MM
          refine any_skip7 rfl rfl (exec_store7 rfl rfl rfl hY) ?_
          simp only [Act.put]
          refine wpAny_all (rs := [5]) (by kernel_rfl) (by decide) (one_of7 ?_)
          refine any_val7 (.int .i64 c9) 6 rfl rfl rfl (rfl) ?_
          simp only [Act.put]
          refine wpAny_done (by kernel_rfl) ?_ _
          go_wp2_with fail
          exact bodyPost_ret (results_row2_tmp rfl _ _ (w.heap.size + 1) (w.heap.size + 1 + 1) 30 31 _ _ _ _ rfl rfl (MM.at 1 rfl) (MM.at 2 rfl) Tryd.underlying30 rfl (by rw [fcells_size]; exact sizeFd) Tryd.underlying31 rfl (by rw [acells_size]; exact size4)) rfl ⟨rfl, MM.below⟩
      · refine any_val7 (.agg (acells .i64 4 S9)) 28 rfl rfl rfl (exec_load7 rfl rfl (b0 _ MM)) ?_
        simp only [Act.put]
        refine wpAny_all (rs := [0]) (by kernel_rfl) (by decide) (one_of7 ?_)
        refine any_val7 (.agg (fcells FF)) 27 rfl rfl rfl (exec_load7 rfl rfl (a0 _ MM)) ?_
        simp only [Act.put]
        refine wpAny_all (rs := [3]) (by kernel_rfl) (by decide) (one_of7 ?_)
        obtain ⟨Y, hY, MM⟩ := s0 _ MM
        refine any_skip7 rfl rfl (exec_store7 rfl rfl rfl hY) ?_
        simp only [Act.put]
        refine wpAny_all (rs := [4]) (by kernel_rfl) (by decide) (one_of7 ?_)
        obtain ⟨Y, hY, MM⟩ := s1 _ MM
        refine any_skip7 rfl rfl (exec_store7 rfl rfl rfl hY) ?_
        simp only [Act.put]
        refine wpAny_all (rs := [5]) (by kernel_rfl) (by decide) (one_of7 ?_)
        refine any_val7 (.int .i64 c9) 6 rfl rfl rfl (rfl) ?_
        simp only [Act.put]
        refine wpAny_done (by kernel_rfl) ?_ _
        go_wp2_with fail
        exact bodyPost_ret (results_row2_tmp rfl _ _ (w.heap.size + 1) (w.heap.size + 1 + 1) 30 31 _ _ _ _ rfl rfl (MM.at 1 rfl) (MM.at 2 rfl) Tryd.underlying30 rfl (by rw [fcells_size]; exact sizeFd) Tryd.underlying31 rfl (by rw [acells_size]; exact size4)) rfl ⟨rfl, MM.below⟩
  · have hdi : rdCode f n F = diC f n ∧ diC f n ≠ 0 := by
      unfold rdCode diC
      cases hok : okF f with
      | false => simp
      | true =>
        have : 100 < n := Nat.lt_of_not_le (fun h => hgood ⟨hok, h⟩)
        simp [this]
    have h1 : fcells (rdF f n F) = Tryd.zeroCells30 := by unfold rdF; rw [if_neg hgood, zeroFd]
    have h2 : rdS f n F = fun _ => 0 := by unfold rdS; rw [if_neg hgood]
    rw [h1, h2, hdi.1]
    obtain ⟨c9, hc9⟩ : ∃ c9, diC f n = c9 := ⟨_, rfl⟩
    have hcz := hdi.2
    rw [hc9] at HDI hcz ⊢
    have hcb : (c9 != 0) = true := by simpa using hcz
    clear hdi h1 h2 hc9 hgood hF
    go_enter Tryd.func6, Tryd.ntmps6
    go_upto_region 1 with (fail)
    obtain ⟨W, hW, M⟩ := open3 w (fcells f) 30 Tryd.zeroCells30 30 (acells .i64 4 (fun _ => 0)) 31
    rw [zero4] at hW
    rw [hW]; clear hW
    go_wp2_with (first
      | (go_at_call 15; refine (HDI.out w.heap.size _ (M.at 0 rfl)).mono ?_; rintro e w1 ⟨rfl, rfl⟩)
      | (refine wpList_store_row rfl 30 _ _ rfl (w.heap.size + 1) Tryd.zeroCells30 rfl rfl 30 _ (M.at 1 rfl) (by rw [hz.out]; exact sizeFd) (by rw [hz.out]) hz1.out ?_; have MX := M.row 1 rfl Tryd.zeroCells30; clear M)
      | (refine wpList_store_row rfl 31 _ _ rfl (w.heap.size + 1 + 1) (acells .i64 4 (fun _ => 0)) rfl rfl 31 _ (MX.at 2 rfl) (by rw [acells_size]; exact size4) (by simp only [acells_size]) (acells_one _ _ _) ?_; have MY := MX.row 2 rfl (acells .i64 4 (fun _ => 0)); clear MX))
    exact bodyPost_ret (results_row2_tmp rfl _ _ (w.heap.size + 1) (w.heap.size + 1 + 1) 30 31 _ _ _ _ rfl rfl (MY.at 1 rfl) (MY.at 2 rfl) Tryd.underlying30 rfl (by rw [hz.out]; exact sizeFd) Tryd.underlying31 rfl (by rw [acells_size]; exact size4)) rfl ⟨rfl, MY.below⟩
end Go.Proofs.YtgadjnddllaejaaDoor
