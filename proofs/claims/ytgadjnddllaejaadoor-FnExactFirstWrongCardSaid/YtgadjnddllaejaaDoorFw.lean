import Derived.Test.YtgadjnddllaejaaDoorRplI
import Derived.Test.YtgadjnddllaejaaDoorRplS
import Derived.Test.YtgadjnddllaejaaDoorAsW
namespace Go.Proofs.YtgadjnddllaejaaDoor
open Go Go.ChangeShapes Go.WideShapes Go.ChangeAt Go.RowKit

def fwA (f : Fd) (n : Nat) (F : Nat → Nat → Int) : Int := if okF f = true ∧ n ≤ 100 ∧ rpW f F n ≠ n then (rpW f F n : Int) else 0
def fwB (f : Fd) (n : Nat) (F : Nat → Nat → Int) : Int := if okF f = true ∧ n ≤ 100 ∧ rpW f F n ≠ n then rpC f F (rpW f F n) else 0
def fwC (f : Fd) (n : Nat) (F : Nat → Nat → Int) : Int := if okF f then (if 100 < n then 3 else if rpW f F n = n then 6 else 0) else 1
theorem fw_out {f : Fd} {n : Nat} {F : Nat → Nat → Int} (h : ¬ (okF f = true ∧ n ≤ 100)) : fwA f n F = 0 ∧ fwB f n F = 0 ∧ fwC f n F = ((if okF f then 3 else 1 : Nat) : Int) ∧ diC f n = ((if okF f then 3 else 1 : Nat) : Int) := by
  have h' : ¬ (okF f = true ∧ n ≤ 100 ∧ rpW f F n ≠ n) := fun x => h ⟨x.1, x.2.1⟩
  refine ⟨by unfold fwA; rw [if_neg h'], by unfold fwB; rw [if_neg h'], ?_, ?_⟩
  · unfold fwC
    cases hok : okF f with
    | false => rfl
    | true => rw [if_pos rfl, if_pos (by by_cases hn : 100 < n; exact hn; exact absurd ⟨hok, by omega⟩ h)]; rfl
  · unfold diC
    cases hok : okF f with
    | false => rfl
    | true => rw [if_pos rfl, if_pos (by by_cases hn : 100 < n; exact hn; exact absurd ⟨hok, by omega⟩ h)]; rfl
theorem fw_good {f : Fd} {n : Nat} {F : Nat → Nat → Int} (hok : okF f = true) (hn : n ≤ 100) (h : rpW f F n = n) : fwA f n F = 0 ∧ fwB f n F = 0 ∧ fwC f n F = 6 := by
  have h' : ¬ (okF f = true ∧ n ≤ 100 ∧ rpW f F n ≠ n) := fun x => x.2.2 h
  refine ⟨by unfold fwA; rw [if_neg h'], by unfold fwB; rw [if_neg h'], ?_⟩
  unfold fwC; rw [hok, if_pos rfl, if_neg (by omega), if_pos h]
theorem fw_bad {f : Fd} {n : Nat} {F : Nat → Nat → Int} (hok : okF f = true) (hn : n ≤ 100) (h : rpW f F n ≠ n) : fwA f n F = (rpW f F n : Int) ∧ fwB f n F = rpC f F (rpW f F n) ∧ fwC f n F = 0 := by
  refine ⟨by unfold fwA; rw [if_pos ⟨hok, hn, h⟩], by unfold fwB; rw [if_pos ⟨hok, hn, h⟩], ?_⟩
  unfold fwC; rw [hok, if_pos rfl, if_neg (by omega), if_neg h]

set_option maxRecDepth 100000 in
set_option maxHeartbeats 8000000 in
theorem specFirstWrong (f : Fd) (hf : f.Wf) (n : Nat) (hn : n ≤ 2 ^ 40) (F : Nat → Nat → Int) (hF : ∀ i, i < n → WfEn (F i)) (b o c : Nat) (w : World) (I : InS w b o n ksEntry F) :
    Calls Tryd.prog 13 #[.agg (fcells f), .slice (some ⟨b, o, none⟩) n c] w fun e w' => e = .returned (.tuple #[.int .i64 (fwA f n F), .int .i64 (fwB f n F), .int .i64 (fwC f n F)]) ∧ Below w.heap.size w w' := by
  have HI := Lib.hid I
  clear I
  have hz : Hid (Tryd.zeroCells30.size = 202) := Lib.hid (by rw [zeroFd, fcells_size])
  have HDI := Lib.hid (fun fb w B => l07Diary_any f hf fb (some ⟨b, o, none⟩) n c hn w B)
  by_cases hgood : okF f = true ∧ n ≤ 100
  · obtain ⟨hok, hn1⟩ := hgood
    have hdi : diC f n = 0 := by unfold diC; rw [hok, if_pos rfl, if_neg (by omega)]
    rw [hdi] at HDI
    have HR := Lib.hid (fun w I => l07Replay_any f hf hok n hn1 F hF b o c w I)
    by_cases hw : rpW f F n = n
    · obtain ⟨e1, e2, e3⟩ := fw_good (F := F) hok hn1 hw
      obtain ⟨r1, r2, _, _⟩ := ro_good (F := F) hw
      rw [e1, e2, e3]
      rw [r1, r2] at HR
      obtain ⟨FF, hFF⟩ : ∃ FF, roF f n F = FF := ⟨_, rfl⟩
      obtain ⟨S9, hS9⟩ : ∃ S9, roS f n F = S9 := ⟨_, rfl⟩
      rw [hFF, hS9] at HR
      clear hFF hS9
      clear hF hdi hok e1 e2 e3 r1 r2 hw
      go_enter Tryd.func13, Tryd.ntmps13
      go_upto_region 1 with (fail)
      obtain ⟨W, hW, M⟩ := open1 w (fcells f) 30
      rw [hW]; clear hW
      go_wp2_with (first
        | (go_at_call 15; refine (HDI.out w.heap.size _ (M.at 0 rfl)).mono ?_; rintro e w1 ⟨rfl, rfl⟩)
        | (refine wpList_load_part rfl 30 _ rfl w.heap.size 0 rfl (fcells f) _ (M.at 0 rfl).whole Tryd.underlying30 rfl (by rw [fcells_size]; exact sizeFd) ?_)
        | (go_at_call 16; refine (HR.out _ (HI.out.later M.below)).mono ?_; rintro e W2 ⟨rfl, hb⟩; have M2 := M.call hb; clear hb M; have MA := (M2.alloc Tryd.zeroCells30 30).alloc #[.int .i64 0, .int .i64 0, .int .i64 0, .int .i64 0] 31)
        | (refine wpList_store_row rfl 30 _ _ rfl W2.heap.size (fcells FF) rfl rfl 30 _ (MA.at 1 rfl) (by rw [fcells_size]; exact sizeFd) (by rw [hz.out, fcells_size]) (fcells_one _) ?_; have MB := MA.row 1 rfl (fcells FF); clear MA)
        | (refine wpList_store_row rfl 31 _ _ rfl (W2.heap.size + 1) (acells .i64 4 S9) rfl rfl 31 _ (MB.at 2 (by simp only [World.size_alloc]; rfl)) (by rw [acells_size]; exact size4) (by rw [acells_size]; rfl) (acells_one _ _ _) ?_; have MC := MB.row 2 rfl (acells .i64 4 S9); clear MB))
      simp only [World.size_alloc] at MC
      go_ret3
      exact ⟨rfl, MC.below⟩
    · obtain ⟨e1, e2, e3⟩ := fw_bad (F := F) hok hn1 hw
      have r1 : roAt f n F = (rpW f F n : Int) := by unfold roAt; rw [if_neg hw]
      have r2 : roCode f n F = rpC f F (rpW f F n) := by unfold roCode; rw [if_neg hw]
      rw [e1, e2, e3]
      rw [r1, r2] at HR
      obtain ⟨m, hm⟩ : ∃ m, rpW f F n = m := ⟨_, rfl⟩
      rw [hm] at HR ⊢
      obtain ⟨q, hq⟩ : ∃ q, rpC f F m = q := ⟨_, rfl⟩
      rw [hq] at HR ⊢
      obtain ⟨FF, hFF⟩ : ∃ FF, roF f n F = FF := ⟨_, rfl⟩
      obtain ⟨S9, hS9⟩ : ∃ S9, roS f n F = S9 := ⟨_, rfl⟩
      rw [hFF, hS9] at HR
      clear hFF hS9
      have hnn : ¬ ((m : Int) < 0) := by omega
      clear hF hdi hok e1 e2 e3 r1 r2 hw hm hq
      go_enter Tryd.func13, Tryd.ntmps13
      go_upto_region 1 with (fail)
      obtain ⟨W, hW, M⟩ := open1 w (fcells f) 30
      rw [hW]; clear hW
      go_wp2_with (first
        | (go_at_call 15; refine (HDI.out w.heap.size _ (M.at 0 rfl)).mono ?_; rintro e w1 ⟨rfl, rfl⟩)
        | (refine wpList_load_part rfl 30 _ rfl w.heap.size 0 rfl (fcells f) _ (M.at 0 rfl).whole Tryd.underlying30 rfl (by rw [fcells_size]; exact sizeFd) ?_)
        | (go_at_call 16; refine (HR.out _ (HI.out.later M.below)).mono ?_; rintro e W2 ⟨rfl, hb⟩; have M2 := M.call hb; clear hb M; have MA := (M2.alloc Tryd.zeroCells30 30).alloc #[.int .i64 0, .int .i64 0, .int .i64 0, .int .i64 0] 31)
        | (refine wpList_store_row rfl 30 _ _ rfl W2.heap.size (fcells FF) rfl rfl 30 _ (MA.at 1 rfl) (by rw [fcells_size]; exact sizeFd) (by rw [hz.out, fcells_size]) (fcells_one _) ?_; have MB := MA.row 1 rfl (fcells FF); clear MA)
        | (refine wpList_store_row rfl 31 _ _ rfl (W2.heap.size + 1) (acells .i64 4 S9) rfl rfl 31 _ (MB.at 2 (by simp only [World.size_alloc]; rfl)) (by rw [acells_size]; exact size4) (by rw [acells_size]; rfl) (acells_one _ _ _) ?_; have MC := MB.row 2 rfl (acells .i64 4 S9); clear MB))
      simp only [World.size_alloc] at MC
      go_ret3
      exact ⟨rfl, MC.below⟩
  · obtain ⟨e1, e2, e3, e4⟩ := fw_out (F := F) hgood
    rw [e1, e2, e3]
    rw [e4] at HDI
    obtain ⟨k, hk, hk1⟩ : ∃ k : Nat, (if okF f then 3 else 1 : Nat) = k ∧ 1 ≤ k := ⟨_, rfl, by split <;> omega⟩
    rw [hk] at HDI ⊢
    have hk2 : ¬ ((k : Int) = 0) := by omega
    clear hF e1 e2 e3 e4 hk hgood
    go_enter Tryd.func13, Tryd.ntmps13
    go_upto_region 1 with (fail)
    obtain ⟨W, hW, M⟩ := open1 w (fcells f) 30
    rw [hW]; clear hW
    go_wp2_with (go_at_call 15; refine (HDI.out w.heap.size _ (M.at 0 rfl)).mono ?_; rintro e w1 ⟨rfl, rfl⟩)
    go_ret3
    exact ⟨rfl, M.below⟩

set_option maxRecDepth 100000 in
set_option maxHeartbeats 8000000 in
theorem implFirstWrong (f : Fd) (hf : f.Wf) (n : Nat) (hn : n ≤ 2 ^ 40) (F : Nat → Nat → Int) (hF : ∀ i, i < n → WfEn (F i)) (b o c : Nat) (A : Nat → Addr) (w : World) (S0 : Sents w A) (hg : w.cell? ⟨2, 0, none⟩ = some (.iface 105 (.agg #[.pointer (some ⟨9, 54, none⟩)]))) (I : InS w b o n ksEntry F) :
    Calls Tryd.prog 14 #[.agg (fcells f), .slice (some ⟨b, o, none⟩) n c] w fun e w' => e = .returned (.tuple #[.int .i64 (fwA f n F), .int .i64 (fwB f n F), .int .i64 (fwC f n F)]) ∧ Below w.heap.size w w' := by
  have HI := Lib.hid I
  have S := Lib.hid S0
  have HG := Lib.hid (fun (W : World) (hb : Below w.heap.size w W) => cell_later hg hb)
  have hif := isIfaceErr
  have hz : Hid (Tryd.zeroCells30.size = 202) := Lib.hid (by rw [zeroFd, fcells_size])
  have HR := Lib.hid (fun w S I => replayed_any f hf n hn F hF b o c A w S I)
  clear I S0 hg
  by_cases hgood : okF f = true ∧ n ≤ 100
  · obtain ⟨hok, hn1⟩ := hgood
    by_cases hw : rpW f F n = n
    · obtain ⟨e1, e2, e3⟩ := fw_good (F := F) hok hn1 hw
      obtain ⟨_, _, r3⟩ := rd_good (A := A) (F := F) hok hn1 hw
      rw [e1, e2, e3]
      rw [r3] at HR
      obtain ⟨FF, hFF⟩ : ∃ FF, rdF f n F = FF := ⟨_, rfl⟩
      obtain ⟨S9, hS9⟩ : ∃ S9, rdS f n F = S9 := ⟨_, rfl⟩
      rw [hFF, hS9] at HR
      clear hFF hS9
      clear hF hok e1 e2 e3 r3 hw
      go_enter Tryd.func14, Tryd.ntmps14
      go_upto_region 1 with (fail)
      obtain ⟨W, hW, M⟩ := open1 w (fcells f) 30
      rw [hW]; clear hW
      go_upto_region 2 with (first
        | (refine wpList_load_part rfl 30 _ rfl w.heap.size 0 rfl (fcells f) _ (M.at 0 rfl).whole Tryd.underlying30 rfl (by rw [fcells_size]; exact sizeFd) ?_)
        | (go_at_call 20; refine (HR.out _ (S.out.later M.below) (HI.out.later M.below)).mono ?_; rintro e W2 ⟨rfl, hb⟩; have M2 := M.call hb; clear hb M; have MA := (M2.alloc Tryd.zeroCells30 30).alloc #[.int .i64 0, .int .i64 0, .int .i64 0, .int .i64 0] 31)
        | (refine wpList_store_row rfl 30 _ _ rfl W2.heap.size (fcells FF) rfl rfl 30 _ (MA.at 1 rfl) (by rw [fcells_size]; exact sizeFd) (by rw [hz.out, fcells_size]) (fcells_one _) ?_; have MB := MA.row 1 rfl (fcells FF); clear MA)
        | (refine wpList_store_row rfl 31 _ _ rfl (W2.heap.size + 1) (acells .i64 4 S9) rfl rfl 31 _ (MB.at 2 (by simp only [World.size_alloc]; rfl)) (by rw [acells_size]; exact size4) (by rw [acells_size]; rfl) (acells_one _ _ _) ?_; have MC := MB.row 2 rfl (acells .i64 4 S9); clear MB))
      simp only [World.size_alloc] at MC
      obtain ⟨nb, hnb⟩ : ∃ nb, W2.heap.size = nb := ⟨_, rfl⟩
      rw [hnb] at MC ⊢
      generalize World.setRow _ _ _ = V7 at MC ⊢
      have M7 : Mem w V7 [⟨w.heap.size, fcells f, 30⟩, ⟨nb, fcells FF, 30⟩, ⟨nb + 1, acells .i64 4 S9, 31⟩] := MC
      clear MC hnb M2
      go_upto_region 3 with (fail)
      have M8 := M7.alloc #[.int .i64 0, .nilIface] 62
      clear M7
      obtain ⟨tb, htb⟩ : ∃ tb, V7.heap.size = tb := ⟨_, rfl⟩
      rw [htb] at M8 ⊢
      generalize World.alloc _ _ = V8 at M8 ⊢
      clear htb
      have c9 : V8.cell? ⟨0, 0, none⟩ = some (errVal (A 6)) := (S.out.later M8.below).v6
      have M9 := M8
      clear M8
      go_wp2_with (first
        | (go_at_call 25; refine (as_nil _ _).mono ?_; rintro e w4 ⟨rfl, rfl⟩)
        | (go_at_call 21; refine (codeOf_err A 6 (by omega) (by omega) _ (S.out.later M9.below)).mono ?_; rintro e w5 ⟨rfl, rfl⟩))
      go_ret3
      exact ⟨rfl, M9.below⟩
    · obtain ⟨e1, e2, e3⟩ := fw_bad (F := F) hok hn1 hw
      obtain ⟨m, hm⟩ : ∃ m, rpW f F n = m := ⟨_, rfl⟩
      have hne := rpW_ne (f := f) (F := F) n hw
      have hmn : m < n := by have := rpW_le f F n; omega
      rw [hm] at e1 e2 hne
      obtain ⟨q, hq1, hq8, hq⟩ : ∃ q : Nat, 1 ≤ q ∧ q ≤ 8 ∧ rpC f F m = (q : Int) := (rp_codes f F m).resolve_left hne
      have r3 : rdErr A f n F = wrErr m (A q) := by
        unfold rdErr
        rw [hok, if_pos rfl, if_neg (by omega), if_neg hw, hm, hq, Int.toNat_natCast]
      rw [hq] at e2
      rw [e1, e2, e3]
      rw [r3] at HR
      obtain ⟨FF, hFF⟩ : ∃ FF, rdF f n F = FF := ⟨_, rfl⟩
      obtain ⟨S9, hS9⟩ : ∃ S9, rdS f n F = S9 := ⟨_, rfl⟩
      rw [hFF, hS9] at HR
      clear hFF hS9
      clear hF hok e1 e2 e3 r3 hw hne hm hq
      go_enter Tryd.func14, Tryd.ntmps14
      go_upto_region 1 with (fail)
      obtain ⟨W, hW, M⟩ := open1 w (fcells f) 30
      rw [hW]; clear hW
      go_upto_region 2 with (first
        | (refine wpList_load_part rfl 30 _ rfl w.heap.size 0 rfl (fcells f) _ (M.at 0 rfl).whole Tryd.underlying30 rfl (by rw [fcells_size]; exact sizeFd) ?_)
        | (go_at_call 20; refine (HR.out _ (S.out.later M.below) (HI.out.later M.below)).mono ?_; rintro e W2 ⟨rfl, hb⟩; have M2 := M.call hb; clear hb M; have MA := (M2.alloc Tryd.zeroCells30 30).alloc #[.int .i64 0, .int .i64 0, .int .i64 0, .int .i64 0] 31)
        | (refine wpList_store_row rfl 30 _ _ rfl W2.heap.size (fcells FF) rfl rfl 30 _ (MA.at 1 rfl) (by rw [fcells_size]; exact sizeFd) (by rw [hz.out, fcells_size]) (fcells_one _) ?_; have MB := MA.row 1 rfl (fcells FF); clear MA)
        | (refine wpList_store_row rfl 31 _ _ rfl (W2.heap.size + 1) (acells .i64 4 S9) rfl rfl 31 _ (MB.at 2 (by simp only [World.size_alloc]; rfl)) (by rw [acells_size]; exact size4) (by rw [acells_size]; rfl) (acells_one _ _ _) ?_; have MC := MB.row 2 rfl (acells .i64 4 S9); clear MB))
      simp only [World.size_alloc] at MC
      obtain ⟨nb, hnb⟩ : ∃ nb, W2.heap.size = nb := ⟨_, rfl⟩
      rw [hnb] at MC ⊢
      generalize World.setRow _ _ _ = V7 at MC ⊢
      have M7 : Mem w V7 [⟨w.heap.size, fcells f, 30⟩, ⟨nb, fcells FF, 30⟩, ⟨nb + 1, acells .i64 4 S9, 31⟩] := MC
      clear MC hnb M2
      go_upto_region 3 with (fail)
      have M8 := M7.alloc #[.int .i64 0, .nilIface] 62
      clear M7
      obtain ⟨tb, htb⟩ : ∃ tb, V7.heap.size = tb := ⟨_, rfl⟩
      rw [htb] at M8 ⊢
      generalize World.alloc _ _ = V8 at M8 ⊢
      clear htb
      go_upto_region 4 with (go_at_call 25; refine (as_hit m (A q) tb #[.int .i64 0, .nilIface] rfl 62 _ (HG.out _ M8.below) (M8.at 3 rfl)).mono ?_; rintro e w4 ⟨rfl, W1, hb, rfl⟩; have M9 := (M8.call hb).cells 3 0 [.int .i64 m, errVal (A q)] rfl #[.int .i64 m, errVal (A q)] (((M8.call hb).at 3 rfl).over #[.int .i64 m, errVal (A q)] rfl); clear hb M8)
      generalize World.setCells _ _ _ _ = V9 at M9 ⊢
      have MD : Mem w V9.drew [⟨w.heap.size, fcells f, 30⟩, ⟨nb, fcells FF, 30⟩, ⟨nb + 1, acells .i64 4 S9, 31⟩, ⟨tb, #[.int .i64 m, errVal (A q)], 62⟩] := M9.drew
      clear M9

      refine wp_region_rel (DL [dV (.pointer (some ⟨tb, 0, none⟩)), dV (.int .i64 m), dV (.pointer (some ⟨tb, 1, none⟩)), dV (errVal (A q)), dV (.int .i64 q), dV (.int .i64 m), dV (.int .i64 q), dV (.int .i64 0)]) (fun w' => Mem w w' [⟨w.heap.size, fcells f, 30⟩, ⟨nb, fcells FF, 30⟩, ⟨nb + 1, acells .i64 4 S9, 31⟩, ⟨tb, #[.int .i64 m, errVal (A q)], 62⟩]) (by kernel_rfl) (by kernel_rfl) grows_mem
        (stays_DL (fun d hd => by
          simp only [List.mem_cons, List.mem_nil_iff, or_false] at hd
          rcases hd with rfl | rfl | rfl | rfl | rfl | rfl | rfl | rfl <;> exact stay_V)) MD ?_
      refine rel_val (.pointer (some ⟨tb, 0, none⟩)) rfl rfl (fun _ _ => by simp [execOp, Act.eval, go_sem]) (fun _ => ?_)
      simp only [Act.put, List.setIfInBounds_toArray, List.set_cons_zero, List.set_cons_succ]
      refine rel_cell 2 _ rfl (tb) (0) rfl (.int .i64 m) rfl rfl (fun w' c => load_i64R _ _ _ w' c) (fun w' hw' => (hw'.at 3 rfl).cell (i := 0) rfl) (fun _ => ?_)
      simp only [Act.put, List.setIfInBounds_toArray, List.set_cons_zero, List.set_cons_succ]
      refine rel_val (.pointer (some ⟨tb, 1, none⟩)) rfl rfl (fun _ _ => by simp [execOp, Act.eval, go_sem]) (fun _ => ?_)
      simp only [Act.put, List.setIfInBounds_toArray, List.set_cons_zero, List.set_cons_succ]
      refine rel_cell 54 _ rfl (tb) (1) rfl (errVal (A q)) rfl rfl (fun w' c => load_errI7 _ _ _ w' c) (fun w' hw' => (hw'.at 3 rfl).cell (i := 1) rfl) (fun _ => ?_)
      simp only [Act.put, List.setIfInBounds_toArray, List.set_cons_zero, List.set_cons_succ]
      refine rel_call (.int .i64 q) 21 #[errVal (A q)] rfl rfl rfl rfl (enters_of Tryd.func21 (by kernel_rfl) rfl) (fun w' hw' => (codeOf_err A q hq1 hq8 w' (S.out.later hw'.below)).mono (fun e w2 h => ⟨h.1, by rw [← h.2]; exact Below.refl _ _⟩)) (fun _ => ?_)
      simp only [Act.put, List.setIfInBounds_toArray, List.set_cons_zero, List.set_cons_succ]
      refine rel_val _ rfl rfl (fun _ _ => rfl) (fun _ => ?_)
      simp only [Act.put, List.setIfInBounds_toArray, List.set_cons_zero, List.set_cons_succ]
      refine rel_val _ rfl rfl (fun _ _ => rfl) (fun _ => ?_)
      simp only [Act.put, List.setIfInBounds_toArray, List.set_cons_zero, List.set_cons_succ]
      refine rel_val _ rfl rfl (fun _ _ => rfl) (fun _ => ?_)
      simp only [Act.put, List.setIfInBounds_toArray, List.set_cons_zero, List.set_cons_succ]
      refine rel_nil (fun W6 inv => ?_)
      have M6 := inv.cls
      clear inv
      go_wp2_with fail
      go_ret3
      exact ⟨rfl, M6.below⟩
  · obtain ⟨e1, e2, e3, _⟩ := fw_out (F := F) hgood
    obtain ⟨_, _, r3⟩ := rd_out (A := A) (F := F) hgood
    rw [e1, e2, e3]
    rw [r3] at HR
    obtain ⟨k, hk, hk1, hk8⟩ : ∃ k : Nat, (if okF f then 3 else 1 : Nat) = k ∧ 1 ≤ k ∧ k ≤ 8 := ⟨_, rfl, by split <;> omega, by split <;> omega⟩
    rw [hk] at HR ⊢
    obtain ⟨FF, hFF⟩ : ∃ FF, rdF f n F = FF := ⟨_, rfl⟩
    obtain ⟨S9, hS9⟩ : ∃ S9, rdS f n F = S9 := ⟨_, rfl⟩
    rw [hFF, hS9] at HR
    clear hFF hS9
    clear hF e1 e2 e3 r3 hk hgood
    go_enter Tryd.func14, Tryd.ntmps14
    go_upto_region 1 with (fail)
    obtain ⟨W, hW, M⟩ := open1 w (fcells f) 30
    rw [hW]; clear hW
    go_upto_region 2 with (first
      | (refine wpList_load_part rfl 30 _ rfl w.heap.size 0 rfl (fcells f) _ (M.at 0 rfl).whole Tryd.underlying30 rfl (by rw [fcells_size]; exact sizeFd) ?_)
      | (go_at_call 20; refine (HR.out _ (S.out.later M.below) (HI.out.later M.below)).mono ?_; rintro e W2 ⟨rfl, hb⟩; have M2 := M.call hb; clear hb M; have MA := (M2.alloc Tryd.zeroCells30 30).alloc #[.int .i64 0, .int .i64 0, .int .i64 0, .int .i64 0] 31)
      | (refine wpList_store_row rfl 30 _ _ rfl W2.heap.size (fcells FF) rfl rfl 30 _ (MA.at 1 rfl) (by rw [fcells_size]; exact sizeFd) (by rw [hz.out, fcells_size]) (fcells_one _) ?_; have MB := MA.row 1 rfl (fcells FF); clear MA)
      | (refine wpList_store_row rfl 31 _ _ rfl (W2.heap.size + 1) (acells .i64 4 S9) rfl rfl 31 _ (MB.at 2 (by simp only [World.size_alloc]; rfl)) (by rw [acells_size]; exact size4) (by rw [acells_size]; rfl) (acells_one _ _ _) ?_; have MC := MB.row 2 rfl (acells .i64 4 S9); clear MB))
    simp only [World.size_alloc] at MC
    obtain ⟨nb, hnb⟩ : ∃ nb, W2.heap.size = nb := ⟨_, rfl⟩
    rw [hnb] at MC ⊢
    generalize World.setRow _ _ _ = V7 at MC ⊢
    have M7 : Mem w V7 [⟨w.heap.size, fcells f, 30⟩, ⟨nb, fcells FF, 30⟩, ⟨nb + 1, acells .i64 4 S9, 31⟩] := MC
    clear MC hnb M2
    go_upto_region 3 with (fail)
    have M8 := M7.alloc #[.int .i64 0, .nilIface] 62
    clear M7
    obtain ⟨tb, htb⟩ : ∃ tb, V7.heap.size = tb := ⟨_, rfl⟩
    rw [htb] at M8 ⊢
    generalize World.alloc _ _ = V8 at M8 ⊢
    clear htb
    go_wp2_with (first
      | (go_at_call 25; refine (as_miss (A k) tb #[.int .i64 0, .nilIface] 62 _ (HG.out _ M8.below) (M8.at 3 rfl)).mono ?_; rintro e w4 ⟨rfl, hb⟩; have M9 := M8.call hb; clear hb M8)
      | (go_at_call 21; refine (codeOf_err A k (by omega) (by omega) _ (S.out.later M9.below)).mono ?_; rintro e w5 ⟨rfl, rfl⟩))
    go_ret3
    exact ⟨rfl, M9.below⟩
end Go.Proofs.YtgadjnddllaejaaDoor