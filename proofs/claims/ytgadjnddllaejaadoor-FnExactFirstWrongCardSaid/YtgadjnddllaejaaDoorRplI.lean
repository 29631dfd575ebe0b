/-
  A diary from a field on: the program's way.
-/
import Derived.Test.YtgadjnddllaejaaDoorRplS
import Derived.Test.YtgadjnddllaejaaDoorErrR
namespace Go.Proofs.YtgadjnddllaejaaDoor
open Go Go.RowKit

theorem bZero4 (w : World) : (Instr.build 31 #[]).run Tryd.prog w = .ok (.agg (acells .i64 4 (fun _ => 0))) w := by kernel_rfl
def rdErr (A : Nat → Addr) (f : Fd) (n : Nat) (F : Nat → Nat → Int) : Value := if okF f then (if 100 < n then errVal (A 3) else if rpW f F n = n then .nilIface else wrErr (rpW f F n : Int) (A (rpC f F (rpW f F n)).toNat)) else errVal (A 1)
theorem rpW_bad {f : Fd} {n : Nat} {F : Nat → Nat → Int} {k : Nat} (hk : k < n) (h : rpW f F k = k) (hc : rpC f F k ≠ 0) : rpW f F n = k := by
  have := rpW_stop h hc (n - (k + 1)); rwa [show k + 1 + (n - (k + 1)) = n by omega] at this
theorem rd_bad {A : Nat → Addr} {f : Fd} {n : Nat} {F : Nat → Nat → Int} {k : Nat} {c : Nat} (hok : okF f = true) (hn : n ≤ 100) (hk : k < n) (h : rpW f F k = k) (hc1 : 1 ≤ c) (hc : rpC f F k = (c : Int)) : fcells (rdF f n F) = Tryd.zeroCells30 ∧ rdS f n F = (fun _ => 0) ∧ rdErr A f n F = wrErr k (A c) := by
  have hne : rpC f F k ≠ 0 := by rw [hc]; omega
  obtain ⟨_, _, h3, h4⟩ := ro_bad hk h hne
  have hw := rpW_bad hk h hne
  refine ⟨?_, ?_, ?_⟩
  · unfold rdF; rw [if_pos ⟨hok, hn⟩, h3]
  · unfold rdS; rw [if_pos ⟨hok, hn⟩, h4]
  · unfold rdErr; rw [hok, if_pos rfl, if_neg (by omega), if_neg (by rw [hw]; omega), hw, hc, Int.toNat_natCast]
theorem rd_good {A : Nat → Addr} {f : Fd} {n : Nat} {F : Nat → Nat → Int} (hok : okF f = true) (hn : n ≤ 100) (h : rpW f F n = n) : rdF f n F = rpF f F n ∧ rdS f n F = rpS F n ∧ rdErr A f n F = .nilIface := by
  obtain ⟨_, _, h3, h4⟩ := ro_good h
  refine ⟨?_, ?_, ?_⟩
  · unfold rdF; rw [if_pos ⟨hok, hn⟩, h3]
  · unfold rdS; rw [if_pos ⟨hok, hn⟩, h4]
  · unfold rdErr; rw [hok, if_pos rfl, if_neg (by omega), if_pos h]
theorem rd_out {A : Nat → Addr} {f : Fd} {n : Nat} {F : Nat → Nat → Int} (h : ¬ (okF f = true ∧ n ≤ 100)) : fcells (rdF f n F) = Tryd.zeroCells30 ∧ rdS f n F = (fun _ => 0) ∧ rdErr A f n F = errVal (A (if okF f then 3 else 1)) := by
  refine ⟨?_, ?_, ?_⟩
  · unfold rdF; rw [if_neg h, zeroFd]
  · unfold rdS; rw [if_neg h]
  · unfold rdErr
    cases hok : okF f with
    | false => rfl
    | true => rw [if_pos rfl, if_pos (Nat.lt_of_not_le (fun h9 => h ⟨hok, h9⟩)), if_pos rfl]

set_option maxRecDepth 100000 in
set_option maxHeartbeats 8000000 in
theorem replayed_any (f : Fd) (hf : f.Wf) (n : Nat) (hn : n ≤ 2 ^ 40) (F : Nat → Nat → Int) (hF : ∀ i, i < n → WfEn (F i)) (b o c : Nat) (A : Nat → Addr) (w : World) (S0 : Sents w A) (I : InS w b o n ksEntry F) :
    Calls Tryd.prog 20 #[.agg (fcells f), .slice (some ⟨b, o, none⟩) n c] w fun e w' => e = .returned (.tuple #[.agg (fcells (rdF f n F)), .agg (acells .i64 4 (rdS f n F)), rdErr A f n F]) ∧ Below w.heap.size w w' := by
  have HI := Lib.hid I
  have S := Lib.hid S0
  have HF := Lib.hid hF
  clear I S0 hF
  have hif := isIfaceErr
  have hz : Hid (Tryd.zeroCells30.size = 202) := Lib.hid (by rw [zeroFd, fcells_size])
  have hz1 : Hid (Tryd.zeroCells30.all (·.oneCell') = true) := Lib.hid (by rw [zeroFd]; exact fcells_one _)
  cases hok : okF f with
  | false =>
    have hE := rd_out (A := A) (F := F) (n := n) (f := f) (fun h => by rw [hok] at h; exact absurd h.1 (by decide))
    rw [hok, if_neg (by decide)] at hE
    have HE := Lib.hid hE
    have HOK := Lib.hid hok
    clear hok hE
    go_enter Tryd.func20, Tryd.ntmps20
    go_upto_region 1 with (fail)
    obtain ⟨W, hW, M⟩ := open3 w (fcells f) 30 Tryd.zeroCells30 30 (acells .i64 4 (fun _ => 0)) 31
    rw [zero4] at hW
    rw [hW]; clear hW
    go_wp2_with (first
      | (refine wpList_load_part rfl 30 _ rfl w.heap.size 0 rfl (fcells f) _ (M.at 0 rfl).whole Tryd.underlying30 rfl (by rw [fcells_size]; exact sizeFd) ?_)
      | (refine wpList_buildRow rfl 89 30 _ rfl (fcells f) rfl Tryd.underlying89 (by rw [fcells_size]; exact sizeFd) (by rw [fcells_size]; kernel_rfl) (by rw [fcells_size]; omega) (by rw [fcells_size]; omega) ?_)
      | (go_at_call 28; refine (checkFields1 f hf A _ _ _ (Blk.new _ _ _) (S.out.later (M.alloc _ _).below)).mono ?_; rintro e W2 ⟨rfl, hb⟩; rw [HOK.out, errIf_false]; have M2 := (M.alloc (fcells f) 30).call hb; clear hb M)
      | (refine wpList_store_row rfl 30 _ _ rfl (w.heap.size + 1) Tryd.zeroCells30 rfl rfl 30 _ (M2.at 1 rfl) (by rw [hz.out]; exact sizeFd) (by rw [hz.out]) hz1.out ?_; have MX := M2.row 1 rfl Tryd.zeroCells30; clear M2)
      | (refine wpList_store_row rfl 31 _ _ rfl (w.heap.size + 1 + 1) (acells .i64 4 (fun _ => 0)) rfl rfl 31 _ (MX.at 2 rfl) (by rw [acells_size]; exact size4) (by simp only [acells_size]) (acells_one _ _ _) ?_; have MY := MX.row 2 rfl (acells .i64 4 (fun _ => 0)); clear MX))
    exact bodyPost_ret (results_row2_tmp rfl _ _ (w.heap.size + 1) (w.heap.size + 1 + 1) 30 31 _ _ _ _ rfl rfl (MY.at 1 rfl) (MY.at 2 rfl) Tryd.underlying30 rfl (by rw [hz.out]; exact sizeFd) Tryd.underlying31 rfl (by rw [acells_size]; exact size4)) rfl ⟨by rw [HE.out.1, HE.out.2.1, HE.out.2.2]; rfl, MY.below⟩
  | true =>
  have HOK := Lib.hid hok
  by_cases hbig : 100 < n
  · have hE := rd_out (A := A) (F := F) (n := n) (f := f) (fun h => by omega)
    rw [hok, if_pos rfl] at hE
    have HE := Lib.hid hE
    have hd : decide ((100 : Int) < (n : Int)) = true := decide_eq_true (by omega)
    clear hok hE
    go_enter Tryd.func20, Tryd.ntmps20
    go_upto_region 1 with (fail)
    obtain ⟨W, hW, M⟩ := open3 w (fcells f) 30 Tryd.zeroCells30 30 (acells .i64 4 (fun _ => 0)) 31
    rw [zero4] at hW
    rw [hW]; clear hW
    obtain ⟨nb, hnb⟩ : ∃ nb, nb = W.heap.size := ⟨_, rfl⟩
    go_upto_region 5 with (first
      | (refine wpList_load_part rfl 30 _ rfl w.heap.size 0 rfl (fcells f) _ (M.at 0 rfl).whole Tryd.underlying30 rfl (by rw [fcells_size]; exact sizeFd) ?_)
      | (refine wpList_buildRow rfl 89 30 _ rfl (fcells f) rfl Tryd.underlying89 (by rw [fcells_size]; exact sizeFd) (by rw [fcells_size]; kernel_rfl) (by rw [fcells_size]; omega) (by rw [fcells_size]; omega) ?_)
      | (go_at_call 28; refine (checkFields1 f hf A _ _ _ (Blk.new _ _ _) (S.out.later (M.alloc _ _).below)).mono ?_; rintro e W2 ⟨rfl, hb⟩; rw [HOK.out, errIf_true]; have M2 := (M.alloc (fcells f) 30).call hb; clear hb M; rw [← hnb] at M2))
    have g0 : ∀ X, Mem w X [⟨w.heap.size, fcells f, 30⟩, ⟨w.heap.size + 1, Tryd.zeroCells30, 30⟩, ⟨w.heap.size + 1 + 1, acells .i64 4 (fun _ => 0), 31⟩, ⟨nb, fcells f, 30⟩] → (Instr.loadAt 54 (.pointer (some ⟨1, 0, none⟩))).run Tryd.prog X = .ok (errVal (A 3)) X := fun X MX => load_errI7 _ _ _ X (S.out.later MX.below).v3
    have s0 : ∀ X, Mem w X [⟨w.heap.size, fcells f, 30⟩, ⟨w.heap.size + 1, Tryd.zeroCells30, 30⟩, ⟨w.heap.size + 1 + 1, acells .i64 4 (fun _ => 0), 31⟩, ⟨nb, fcells f, 30⟩] → ∃ Y, (Instr.storeAt 30 (.pointer (some ⟨w.heap.size + 1, 0, none⟩)) (.agg (Tryd.zeroCells30))).run Tryd.prog X = .ok () Y ∧ Mem w Y [⟨w.heap.size, fcells f, 30⟩, ⟨w.heap.size + 1, Tryd.zeroCells30, 30⟩, ⟨w.heap.size + 1 + 1, acells .i64 4 (fun _ => 0), 31⟩, ⟨nb, fcells f, 30⟩] := fun X MX => ⟨_, run_storeAt_mid (P := Tryd.prog) X (w.heap.size + 1) 0 30 (Tryd.zeroCells30) ((MX.at 1 rfl).there 0 _ (by rw [hz.out]; omega)) (by rw [hz.out]; exact sizeFd) hz1.out, MX.cells 1 0 (Tryd.zeroCells30).toList rfl (Tryd.zeroCells30) ((MX.at 1 rfl).over (Tryd.zeroCells30) (by rw [hz.out]))⟩
    have s1 : ∀ X, Mem w X [⟨w.heap.size, fcells f, 30⟩, ⟨w.heap.size + 1, Tryd.zeroCells30, 30⟩, ⟨w.heap.size + 1 + 1, acells .i64 4 (fun _ => 0), 31⟩, ⟨nb, fcells f, 30⟩] → ∃ Y, (Instr.storeAt 31 (.pointer (some ⟨w.heap.size + 1 + 1, 0, none⟩)) (.agg (acells .i64 4 (fun _ => 0)))).run Tryd.prog X = .ok () Y ∧ Mem w Y [⟨w.heap.size, fcells f, 30⟩, ⟨w.heap.size + 1, Tryd.zeroCells30, 30⟩, ⟨w.heap.size + 1 + 1, acells .i64 4 (fun _ => 0), 31⟩, ⟨nb, fcells f, 30⟩] := fun X MX => ⟨_, run_storeAt_mid (P := Tryd.prog) X (w.heap.size + 1 + 1) 0 31 (acells .i64 4 (fun _ => 0)) ((MX.at 2 rfl).there 0 _ (by simp only [acells_size]; omega)) (by rw [acells_size]; exact size4) (acells_one _ _ _), MX.cells 2 0 (acells .i64 4 (fun _ => 0)).toList rfl (acells .i64 4 (fun _ => 0)) ((MX.at 2 rfl).over (acells .i64 4 (fun _ => 0)) (by simp only [acells_size]))⟩
    have MM := M2.drew
    clear M2
    refine wp_region_any (by kernel_rfl) ?_
    refine wpAny_all (rs := [0, 1, 2]) (by kernel_rfl) (by decide) (three_of7 ?_ ?_ ?_)
    · refine any_val7 (.agg Tryd.zeroCells30) 25 rfl rfl rfl (exec_build07 rfl (bZeroF7 _)) ?_
      simp only [Act.put]
      refine wpAny_all (rs := [1, 2, 3]) (by kernel_rfl) (by decide) (three_of7 ?_ ?_ ?_)
      · refine any_val7 (.agg (acells .i64 4 (fun _ => 0))) 26 rfl rfl rfl (exec_build07 rfl (bZero4 _)) ?_
        simp only [Act.put]
        refine wpAny_all (rs := [2, 3]) (by kernel_rfl) (by decide) (two_of7 ?_ ?_)
        · refine any_val7 (errVal (A 3)) 27 rfl rfl rfl (exec_load7 rfl rfl (g0 _ MM)) ?_
          simp only [Act.put]
          refine wpAny_all (rs := [3]) (by kernel_rfl) (by decide) (one_of7 ?_)
          obtain ⟨Y, hY, MM⟩ := s0 _ MM
          refine any_skip7 rfl rfl (exec_store7 rfl rfl rfl hY) ?_
          simp only [Act.put]
          refine wpAny_all (rs := [4]) (by kernel_rfl) (by decide) (one_of7 ?_)
          obtain ⟨Y, hY, MM⟩ := s1 _ MM
          refine any_skip7 rfl rfl (exec_store7 rfl rfl rfl hY) ?_
          simp only [Act.put]
          refine wpAny_all (rs := [5]) (by kernel_rfl) (by decide) (one_of7 ?_)
          refine any_val7 (errVal (A 3)) 6 rfl rfl rfl (rfl) ?_
          simp only [Act.put]
          refine wpAny_done (by kernel_rfl) ?_ _
          go_wp2_with fail
          exact bodyPost_ret (results_row2_tmp rfl _ _ (w.heap.size + 1) (w.heap.size + 1 + 1) 30 31 _ _ _ _ rfl rfl (MM.at 1 rfl) (MM.at 2 rfl) Tryd.underlying30 rfl (by rw [hz.out]; exact sizeFd) Tryd.underlying31 rfl (by rw [acells_size]; exact size4)) rfl ⟨by rw [HE.out.1, HE.out.2.1, HE.out.2.2]; rfl, MM.below⟩
        · obtain ⟨Y, hY, MM⟩ := s0 _ MM
          refine any_skip7 rfl rfl (exec_store7 rfl rfl rfl hY) ?_
          simp only [Act.put]
          refine wpAny_all (rs := [2, 4]) (by kernel_rfl) (by decide) (two_of7 ?_ ?_)
          · refine any_val7 (errVal (A 3)) 27 rfl rfl rfl (exec_load7 rfl rfl (g0 _ MM)) ?_
            simp only [Act.put]
            refine wpAny_all (rs := [4]) (by kernel_rfl) (by decide) (one_of7 ?_)
            obtain ⟨Y, hY, MM⟩ := s1 _ MM
            refine any_skip7 rfl rfl (exec_store7 rfl rfl rfl hY) ?_
            simp only [Act.put]
            refine wpAny_all (rs := [5]) (by kernel_rfl) (by decide) (one_of7 ?_)
            refine any_val7 (errVal (A 3)) 6 rfl rfl rfl (rfl) ?_
            simp only [Act.put]
            refine wpAny_done (by kernel_rfl) ?_ _
            go_wp2_with fail
            exact bodyPost_ret (results_row2_tmp rfl _ _ (w.heap.size + 1) (w.heap.size + 1 + 1) 30 31 _ _ _ _ rfl rfl (MM.at 1 rfl) (MM.at 2 rfl) Tryd.underlying30 rfl (by rw [hz.out]; exact sizeFd) Tryd.underlying31 rfl (by rw [acells_size]; exact size4)) rfl ⟨by rw [HE.out.1, HE.out.2.1, HE.out.2.2]; rfl, MM.below⟩
          · obtain ⟨Y, hY, MM⟩ := s1 _ MM
            refine any_skip7 rfl rfl (exec_store7 rfl rfl rfl hY) ?_
            simp only [Act.put]
            refine wpAny_all (rs := [2]) (by kernel_rfl) (by decide) (one_of7 ?_)
            refine any_val7 (errVal (A 3)) 27 rfl rfl rfl (exec_load7 rfl rfl (g0 _ MM)) ?_
            simp only [Act.put]
            refine wpAny_all (rs := [5]) (by kernel_rfl) (by decide) (one_of7 ?_)
            refine any_val7 (errVal (A 3)) 6 rfl rfl rfl (rfl) ?_
            simp only [Act.put]
            refine wpAny_done (by kernel_rfl) ?_ _
            go_wp2_with fail
            exact bodyPost_ret (results_row2_tmp rfl _ _ (w.heap.size + 1) (w.heap.size + 1 + 1) 30 31 _ _ _ _ rfl rfl (MM.at 1 rfl) (MM.at 2 rfl) Tryd.underlying30 rfl (by rw [hz.out]; exact sizeFd) Tryd.underlying31 rfl (by rw [acells_size]; exact size4)) rfl ⟨by rw [HE.out.1, HE.out.2.1, HE.out.2.2]; rfl, MM.below⟩
      · refine any_val7 (errVal (A 3)) 27 rfl rfl rfl (exec_load7 rfl rfl (g0 _ MM)) ?_
        simp only [Act.put]
        refine wpAny_all (rs := [1, 3]) (by kernel_rfl) (by decide) (two_of7 ?_ ?_)
        · refine any_val7 (.agg (acells .i64 4 (fun _ => 0))) 26 rfl rfl rfl (exec_build07 rfl (bZero4 _)) ?_
          simp only [Act.put]
          refine wpAny_all (rs := [3]) (by kernel_rfl) (by decide) (one_of7 ?_)
          obtain ⟨Y, hY, MM⟩ := s0 _ MM
          refine any_skip7 rfl rfl (exec_store7 rfl rfl rfl hY) ?_
          simp only [Act.put]
          refine wpAny_all (rs := [4]) (by kernel_rfl) (by decide) (one_of7 ?_)
          obtain ⟨Y, hY, MM⟩ := s1 _ MM
          refine any_skip7 rfl rfl (exec_store7 rfl rfl rfl hY) ?_
          simp only [Act.put]
          refine wpAny_all (rs := [5]) (by kernel_rfl) (by decide) (one_of7 ?_)
          refine any_val7 (errVal (A 3)) 6 rfl rfl rfl (rfl) ?_
          simp only [Act.put]
          refine wpAny_done (by kernel_rfl) ?_ _
          go_wp2_with fail
          exact bodyPost_ret (results_row2_tmp rfl _ _ (w.heap.size + 1) (w.heap.size + 1 + 1) 30 31 _ _ _ _ rfl rfl (MM.at 1 rfl) (MM.at 2 rfl) Tryd.underlying30 rfl (by rw [hz.out]; exact sizeFd) Tryd.underlying31 rfl (by rw [acells_size]; exact size4)) rfl ⟨by rw [HE.out.1, HE.out.2.1, HE.out.2.2]; rfl, MM.below⟩
        · obtain ⟨Y, hY, MM⟩ := s0 _ MM
          refine any_skip7 rfl rfl (exec_store7 rfl rfl rfl hY) ?_
          simp only [Act.put]
          refine wpAny_all (rs := [1]) (by kernel_rfl) (by decide) (one_of7 ?_)
          refine any_val7 (.agg (acells .i64 4 (fun _ => 0))) 26 rfl rfl rfl (exec_build07 rfl (bZero4 _)) ?_
          simp only [Act.put]
          refine wpAny_all (rs := [4]) (by kernel_rfl) (by decide) (one_of7 ?_)
          obtain ⟨Y, hY, MM⟩ := s1 _ MM
          refine any_skip7 rfl rfl (exec_store7 rfl rfl rfl hY) ?_
          simp only [Act.put]
          refine wpAny_all (rs := [5]) (by kernel_rfl) (by decide) (one_of7 ?_)
          refine any_val7 (errVal (A 3)) 6 rfl rfl rfl (rfl) ?_
          simp only [Act.put]
          refine wpAny_done (by kernel_rfl) ?_ _
          go_wp2_with fail
          exact bodyPost_ret (results_row2_tmp rfl _ _ (w.heap.size + 1) (w.heap.size + 1 + 1) 30 31 _ _ _ _ rfl rfl (MM.at 1 rfl) (MM.at 2 rfl) Tryd.underlying30 rfl (by rw [hz.out]; exact sizeFd) Tryd.underlying31 rfl (by rw [acells_size]; exact size4)) rfl ⟨by rw [HE.out.1, HE.out.2.1, HE.out.2.2]; rfl, MM.below⟩
      · obtain ⟨Y, hY, MM⟩ := s0 _ MM
        refine any_skip7 rfl rfl (exec_store7 rfl rfl rfl hY) ?_
        simp only [Act.put]
        refine wpAny_all (rs := [1, 2]) (by kernel_rfl) (by decide) (two_of7 ?_ ?_)
        · refine any_val7 (.agg (acells .i64 4 (fun _ => 0))) 26 rfl rfl rfl (exec_build07 rfl (bZero4 _)) ?_
          simp only [Act.put]
          refine wpAny_all (rs := [2, 4]) (by kernel_rfl) (by decide) (two_of7 ?_ ?_)
          · refine any_val7 (errVal (A 3)) 27 rfl rfl rfl (exec_load7 rfl rfl (g0 _ MM)) ?_
            simp only [Act.put]
            refine wpAny_all (rs := [4]) (by kernel_rfl) (by decide) (one_of7 ?_)
            obtain ⟨Y, hY, MM⟩ := s1 _ MM
            refine any_skip7 rfl rfl (exec_store7 rfl rfl rfl hY) ?_
            simp only [Act.put]
            refine wpAny_all (rs := [5]) (by kernel_rfl) (by decide) (one_of7 ?_)
            refine any_val7 (errVal (A 3)) 6 rfl rfl rfl (rfl) ?_
            simp only [Act.put]
            refine wpAny_done (by kernel_rfl) ?_ _
            go_wp2_with fail
            exact bodyPost_ret (results_row2_tmp rfl _ _ (w.heap.size + 1) (w.heap.size + 1 + 1) 30 31 _ _ _ _ rfl rfl (MM.at 1 rfl) (MM.at 2 rfl) Tryd.underlying30 rfl (by rw [hz.out]; exact sizeFd) Tryd.underlying31 rfl (by rw [acells_size]; exact size4)) rfl ⟨by rw [HE.out.1, HE.out.2.1, HE.out.2.2]; rfl, MM.below⟩
          · obtain ⟨Y, hY, MM⟩ := s1 _ MM
            refine any_skip7 rfl rfl (exec_store7 rfl rfl rfl hY) ?_
            simp only [Act.put]
            refine wpAny_all (rs := [2]) (by kernel_rfl) (by decide) (one_of7 ?_)
            refine any_val7 (errVal (A 3)) 27 rfl rfl rfl (exec_load7 rfl rfl (g0 _ MM)) ?_
            simp only [Act.put]
            refine wpAny_all (rs := [5]) (by kernel_rfl) (by decide) (one_of7 ?_)
            refine any_val7 (errVal (A 3)) 6 rfl rfl rfl (rfl) ?_
            simp only [Act.put]
            refine wpAny_done (by kernel_rfl) ?_ _
            go_wp2_with fail
            exact bodyPost_ret (results_row2_tmp rfl _ _ (w.heap.size + 1) (w.heap.size + 1 + 1) 30 31 _ _ _ _ rfl rfl (MM.at 1 rfl) (MM.at 2 rfl) Tryd.underlying30 rfl (by rw [hz.out]; exact sizeFd) Tryd.underlying31 rfl (by rw [acells_size]; exact size4)) rfl ⟨by rw [HE.out.1, HE.out.2.1, HE.out.2.2]; rfl, MM.below⟩
        · refine any_val7 (errVal (A 3)) 27 rfl rfl rfl (exec_load7 rfl rfl (g0 _ MM)) ?_
          simp only [Act.put]
          refine wpAny_all (rs := [1]) (by kernel_rfl) (by decide) (one_of7 ?_)
          refine any_val7 (.agg (acells .i64 4 (fun _ => 0))) 26 rfl rfl rfl (exec_build07 rfl (bZero4 _)) ?_
          simp only [Act.put]
          refine wpAny_all (rs := [4]) (by kernel_rfl) (by decide) (one_of7 ?_)
          obtain ⟨Y, hY, MM⟩ := s1 _ MM
          refine any_skip7 rfl rfl (exec_store7 rfl rfl rfl hY) ?_
          simp only [Act.put]
          refine wpAny_all (rs := [5]) (by kernel_rfl) (by decide) (one_of7 ?_)
          refine any_val7 (errVal (A 3)) 6 rfl rfl rfl (rfl) ?_
          simp only [Act.put]
          refine wpAny_done (by kernel_rfl) ?_ _
          go_wp2_with fail
          exact bodyPost_ret (results_row2_tmp rfl _ _ (w.heap.size + 1) (w.heap.size + 1 + 1) 30 31 _ _ _ _ rfl rfl (MM.at 1 rfl) (MM.at 2 rfl) Tryd.underlying30 rfl (by rw [hz.out]; exact sizeFd) Tryd.underlying31 rfl (by rw [acells_size]; exact size4)) rfl ⟨by rw [HE.out.1, HE.out.2.1, HE.out.2.2]; rfl, MM.below⟩
    · refine any_val7 (.agg (acells .i64 4 (fun _ => 0))) 26 rfl rfl rfl (exec_build07 rfl (bZero4 _)) ?_
      simp only [Act.put]
      refine wpAny_all (rs := [0, 2]) (by kernel_rfl) (by decide) (two_of7 ?_ ?_)
      · refine any_val7 (.agg Tryd.zeroCells30) 25 rfl rfl rfl (exec_build07 rfl (bZeroF7 _)) ?_
        simp only [Act.put]
        refine wpAny_all (rs := [2, 3]) (by kernel_rfl) (by decide) (two_of7 ?_ ?_)
        · refine any_val7 (errVal (A 3)) 27 rfl rfl rfl (exec_load7 rfl rfl (g0 _ MM)) ?_
          simp only [Act.put]
          refine wpAny_all (rs := [3]) (by kernel_rfl) (by decide) (one_of7 ?_)
          obtain ⟨Y, hY, MM⟩ := s0 _ MM
          refine any_skip7 rfl rfl (exec_store7 rfl rfl rfl hY) ?_
          simp only [Act.put]
          refine wpAny_all (rs := [4]) (by kernel_rfl) (by decide) (one_of7 ?_)
          obtain ⟨Y, hY, MM⟩ := s1 _ MM
          refine any_skip7 rfl rfl (exec_store7 rfl rfl rfl hY) ?_
          simp only [Act.put]
          refine wpAny_all (rs := [5]) (by kernel_rfl) (by decide) (one_of7 ?_)
          refine any_val7 (errVal (A 3)) 6 rfl rfl rfl (rfl) ?_
          simp only [Act.put]
          refine wpAny_done (by kernel_rfl) ?_ _
          go_wp2_with fail
          exact bodyPost_ret (results_row2_tmp rfl _ _ (w.heap.size + 1) (w.heap.size + 1 + 1) 30 31 _ _ _ _ rfl rfl (MM.at 1 rfl) (MM.at 2 rfl) Tryd.underlying30 rfl (by rw [hz.out]; exact sizeFd) Tryd.underlying31 rfl (by rw [acells_size]; exact size4)) rfl ⟨by rw [HE.out.1, HE.out.2.1, HE.out.2.2]; rfl, MM.below⟩
        · obtain ⟨Y, hY, MM⟩ := s0 _ MM
          refine any_skip7 rfl rfl (exec_store7 rfl rfl rfl hY) ?_
          simp only [Act.put]
          refine wpAny_all (rs := [2, 4]) (by kernel_rfl) (by decide) (two_of7 ?_ ?_)
          · refine any_val7 (errVal (A 3)) 27 rfl rfl rfl (exec_load7 rfl rfl (g0 _ MM)) ?_
            simp only [Act.put]
            refine wpAny_all (rs := [4]) (by kernel_rfl) (by decide) (one_of7 ?_)
            obtain ⟨Y, hY, MM⟩ := s1 _ MM
            refine any_skip7 rfl rfl (exec_store7 rfl rfl rfl hY) ?_
            simp only [Act.put]
            refine wpAny_all (rs := [5]) (by kernel_rfl) (by decide) (one_of7 ?_)
            refine any_val7 (errVal (A 3)) 6 rfl rfl rfl (rfl) ?_
            simp only [Act.put]
            refine wpAny_done (by kernel_rfl) ?_ _
            go_wp2_with fail
            exact bodyPost_ret (results_row2_tmp rfl _ _ (w.heap.size + 1) (w.heap.size + 1 + 1) 30 31 _ _ _ _ rfl rfl (MM.at 1 rfl) (MM.at 2 rfl) Tryd.underlying30 rfl (by rw [hz.out]; exact sizeFd) Tryd.underlying31 rfl (by rw [acells_size]; exact size4)) rfl ⟨by rw [HE.out.1, HE.out.2.1, HE.out.2.2]; rfl, MM.below⟩
          · obtain ⟨Y, hY, MM⟩ := s1 _ MM
            refine any_skip7 rfl rfl (exec_store7 rfl rfl rfl hY) ?_
            simp only [Act.put]
            refine wpAny_all (rs := [2]) (by kernel_rfl) (by decide) (one_of7 ?_)
            refine any_val7 (errVal (A 3)) 27 rfl rfl rfl (exec_load7 rfl rfl (g0 _ MM)) ?_
            simp only [Act.put]
            refine wpAny_all (rs := [5]) (by kernel_rfl) (by decide) (one_of7 ?_)
            refine any_val7 (errVal (A 3)) 6 rfl rfl rfl (rfl) ?_
            simp only [Act.put]
            refine wpAny_done (by kernel_rfl) ?_ _
            go_wp2_with fail
            exact bodyPost_ret (results_row2_tmp rfl _ _ (w.heap.size + 1) (w.heap.size + 1 + 1) 30 31 _ _ _ _ rfl rfl (MM.at 1 rfl) (MM.at 2 rfl) Tryd.underlying30 rfl (by rw [hz.out]; exact sizeFd) Tryd.underlying31 rfl (by rw [acells_size]; exact size4)) rfl ⟨by rw [HE.out.1, HE.out.2.1, HE.out.2.2]; rfl, MM.below⟩
      · refine any_val7 (errVal (A 3)) 27 rfl rfl rfl (exec_load7 rfl rfl (g0 _ MM)) ?_
        simp only [Act.put]
        refine wpAny_all (rs := [0]) (by kernel_rfl) (by decide) (one_of7 ?_)
        refine any_val7 (.agg Tryd.zeroCells30) 25 rfl rfl rfl (exec_build07 rfl (bZeroF7 _)) ?_
        simp only [Act.put]
        refine wpAny_all (rs := [3]) (by kernel_rfl) (by decide) (one_of7 ?_)
        obtain ⟨Y, hY, MM⟩ := s0 _ MM
        refine any_skip7 rfl rfl (exec_store7 rfl rfl rfl hY) ?_
        simp only [Act.put]
        refine wpAny_all (rs := [4]) (by kernel_rfl) (by decide) (one_of7 ?_)
        obtain ⟨Y, hY, MM⟩ := s1 _ MM
        refine any_skip7 rfl rfl (exec_store7 rfl rfl rfl hY) ?_
        simp only [Act.put]
        refine wpAny_all (rs := [5]) (by kernel_rfl) (by decide) (one_of7 ?_)
        refine any_val7 (errVal (A 3)) 6 rfl rfl rfl (rfl) ?_
        simp only [Act.put]
        refine wpAny_done (by kernel_rfl) ?_ _
        go_wp2_with fail
        exact bodyPost_ret (results_row2_tmp rfl _ _ (w.heap.size + 1) (w.heap.size + 1 + 1) 30 31 _ _ _ _ rfl rfl (MM.at 1 rfl) (MM.at 2 rfl) Tryd.underlying30 rfl (by rw [hz.out]; exact sizeFd) Tryd.underlying31 rfl (by rw [acells_size]; exact size4)) rfl ⟨by rw [HE.out.1, HE.out.2.1, HE.out.2.2]; rfl, MM.below⟩
    · refine any_val7 (errVal (A 3)) 27 rfl rfl rfl (exec_load7 rfl rfl (g0 _ MM)) ?_
      simp only [Act.put]
      refine wpAny_all (rs := [0, 1]) (by kernel_rfl) (by decide) (two_of7 ?_ ?_)
      · refine any_val7 (.agg Tryd.zeroCells30) 25 rfl rfl rfl (exec_build07 rfl (bZeroF7 _)) ?_
        simp only [Act.put]
        refine wpAny_all (rs := [1, 3]) (by kernel_rfl) (by decide) (two_of7 ?_ ?_)
        · refine any_val7 (.agg (acells .i64 4 (fun _ => 0))) 26 rfl rfl rfl (exec_build07 rfl (bZero4 _)) ?_
          simp only [Act.put]
          refine wpAny_all (rs := [3]) (by kernel_rfl) (by decide) (one_of7 ?_)
          obtain ⟨Y, hY, MM⟩ := s0 _ MM
          refine any_skip7 rfl rfl (exec_store7 rfl rfl rfl hY) ?_
          simp only [Act.put]
          refine wpAny_all (rs := [4]) (by kernel_rfl) (by decide) (one_of7 ?_)
          obtain ⟨Y, hY, MM⟩ := s1 _ MM
          refine any_skip7 rfl rfl (exec_store7 rfl rfl rfl hY) ?_
          simp only [Act.put]
          refine wpAny_all (rs := [5]) (by kernel_rfl) (by decide) (one_of7 ?_)
          refine any_val7 (errVal (A 3)) 6 rfl rfl rfl (rfl) ?_
          simp only [Act.put]
          refine wpAny_done (by kernel_rfl) ?_ _
          go_wp2_with fail
          exact bodyPost_ret (results_row2_tmp rfl _ _ (w.heap.size + 1) (w.heap.size + 1 + 1) 30 31 _ _ _ _ rfl rfl (MM.at 1 rfl) (MM.at 2 rfl) Tryd.underlying30 rfl (by rw [hz.out]; exact sizeFd) Tryd.underlying31 rfl (by rw [acells_size]; exact size4)) rfl ⟨by rw [HE.out.1, HE.out.2.1, HE.out.2.2]; rfl, MM.below⟩
        · obtain ⟨Y, hY, MM⟩ := s0 _ MM
          refine any_skip7 rfl rfl (exec_store7 rfl rfl rfl hY) ?_
          simp only [Act.put]
          refine wpAny_all (rs := [1]) (by kernel_rfl) (by decide) (one_of7 ?_)
          refine any_val7 (.agg (acells .i64 4 (fun _ => 0))) 26 rfl rfl rfl (exec_build07 rfl (bZero4 _)) ?_
          simp only [Act.put]
          refine wpAny_all (rs := [4]) (by kernel_rfl) (by decide) (one_of7 ?_)
          obtain ⟨Y, hY, MM⟩ := s1 _ MM
          refine any_skip7 rfl rfl (exec_store7 rfl rfl rfl hY) ?_
          simp only [Act.put]
          refine wpAny_all (rs := [5]) (by kernel_rfl) (by decide) (one_of7 ?_)
          refine any_val7 (errVal (A 3)) 6 rfl rfl rfl (rfl) ?_
          simp only [Act.put]
          refine wpAny_done (by kernel_rfl) ?_ _
          go_wp2_with fail
          exact bodyPost_ret (results_row2_tmp rfl _ _ (w.heap.size + 1) (w.heap.size + 1 + 1) 30 31 _ _ _ _ rfl rfl (MM.at 1 rfl) (MM.at 2 rfl) Tryd.underlying30 rfl (by rw [hz.out]; exact sizeFd) Tryd.underlying31 rfl (by rw [acells_size]; exact size4)) rfl ⟨by rw [HE.out.1, HE.out.2.1, HE.out.2.2]; rfl, MM.below⟩
      · refine any_val7 (.agg (acells .i64 4 (fun _ => 0))) 26 rfl rfl rfl (exec_build07 rfl (bZero4 _)) ?_
        simp only [Act.put]
        refine wpAny_all (rs := [0]) (by kernel_rfl) (by decide) (one_of7 ?_)
        refine any_val7 (.agg Tryd.zeroCells30) 25 rfl rfl rfl (exec_build07 rfl (bZeroF7 _)) ?_
        simp only [Act.put]
        refine wpAny_all (rs := [3]) (by kernel_rfl) (by decide) (one_of7 ?_)
        obtain ⟨Y, hY, MM⟩ := s0 _ MM
        refine any_skip7 rfl rfl (exec_store7 rfl rfl rfl hY) ?_
        simp only [Act.put]
        refine wpAny_all (rs := [4]) (by kernel_rfl) (by decide) (one_of7 ?_)
        obtain ⟨Y, hY, MM⟩ := s1 _ MM
        refine any_skip7 rfl rfl (exec_store7 rfl rfl rfl hY) ?_
        simp only [Act.put]
        refine wpAny_all (rs := [5]) (by kernel_rfl) (by decide) (one_of7 ?_)
        refine any_val7 (errVal (A 3)) 6 rfl rfl rfl (rfl) ?_
        simp only [Act.put]
        refine wpAny_done (by kernel_rfl) ?_ _
        go_wp2_with fail
        exact bodyPost_ret (results_row2_tmp rfl _ _ (w.heap.size + 1) (w.heap.size + 1 + 1) 30 31 _ _ _ _ rfl rfl (MM.at 1 rfl) (MM.at 2 rfl) Tryd.underlying30 rfl (by rw [hz.out]; exact sizeFd) Tryd.underlying31 rfl (by rw [acells_size]; exact size4)) rfl ⟨by rw [HE.out.1, HE.out.2.1, HE.out.2.2]; rfl, MM.below⟩
  have hn1 : n ≤ 100 := by omega
  have HFO := Lib.hid (fun k => rpF_ok hf hok (F := F) k)
  have hd : decide ((100 : Int) < (n : Int)) = false := decide_eq_false (by omega)
  go_enter Tryd.func20, Tryd.ntmps20
  go_upto_region 1 with (fail)
  obtain ⟨W, hW, M⟩ := open3 w (fcells f) 30 Tryd.zeroCells30 30 (acells .i64 4 (fun _ => 0)) 31
  rw [zero4] at hW
  rw [hW]; clear hW
  obtain ⟨nb, hnb⟩ : ∃ nb, nb = W.heap.size := ⟨_, rfl⟩
  go_upto_region 8 with (first
    | (refine wpList_load_part rfl 30 _ rfl w.heap.size 0 rfl (fcells f) _ (M.at 0 rfl).whole Tryd.underlying30 rfl (by rw [fcells_size]; exact sizeFd) ?_)
    | (refine wpList_buildRow rfl 89 30 _ rfl (fcells f) rfl Tryd.underlying89 (by rw [fcells_size]; exact sizeFd) (by rw [fcells_size]; kernel_rfl) (by rw [fcells_size]; omega) (by rw [fcells_size]; omega) ?_)
    | (go_at_call 28; refine (checkFields1 f hf A _ _ _ (Blk.new _ _ _) (S.out.later (M.alloc _ _).below)).mono ?_; rintro e W2 ⟨rfl, hb⟩; rw [HOK.out, errIf_true]; have M2 := (M.alloc (fcells f) 30).call hb; clear hb M; rw [← hnb] at M2; have MS := M2.alloc #[.int .i64 0, .int .i64 0, .int .i64 0, .int .i64 0] 31; have MB := MS.alloc Tryd.zeroCells30 30)
    | (refine wpList_load_part rfl 30 _ rfl w.heap.size 0 rfl (fcells f) _ (MS.at 0 rfl).whole Tryd.underlying30 rfl (by rw [fcells_size]; exact sizeFd) ?_)
    | (refine wpList_store_row rfl 30 _ _ rfl (W2.heap.size + 1) (fcells f) rfl rfl 30 _ (MB.at 5 (by simp only [World.size_alloc]; rfl)) (by rw [fcells_size]; exact sizeFd) (by rw [hz.out, fcells_size]) (fcells_one _) ?_; have MC := MB.row 5 rfl (fcells f); clear MB))
  simp only [World.size_alloc] at MC
  obtain ⟨sb, hsb⟩ : ∃ sb, W2.heap.size = sb := ⟨_, rfl⟩
  rw [hsb] at MC ⊢
  generalize World.setRow _ _ _ = W5 at MC ⊢
  have M : Mem w W5 [⟨w.heap.size, fcells f, 30⟩, ⟨w.heap.size + 1, Tryd.zeroCells30, 30⟩, ⟨w.heap.size + 1 + 1, acells .i64 4 (fun _ => 0), 31⟩, ⟨nb, fcells f, 30⟩, ⟨sb, acells .i64 4 (rpS F 0), 31⟩, ⟨sb + 1, fcells (rpF f F 0), 30⟩] := MC
  clear MC hsb hnb MS M2 hd
  go_wp2_with fail
  go_loopw [31] (fun i wr => ∃ k : Nat, k ≤ n ∧ i = .int .i64 k ∧ rpW f F k = k ∧ Mem w wr [⟨w.heap.size, fcells f, 30⟩, ⟨w.heap.size + 1, Tryd.zeroCells30, 30⟩, ⟨w.heap.size + 1 + 1, acells .i64 4 (fun _ => 0), 31⟩, ⟨nb, fcells f, 30⟩, ⟨sb, acells .i64 4 (rpS F k), 31⟩, ⟨sb + 1, fcells (rpF f F k), 30⟩]) (fun i _ => n - (intOf i).toNat)
  case atStart => exact ⟨0, by omega, rfl, rfl, M⟩
  case round =>
    clear M
    obtain ⟨k, hk, rfl, hW9, M⟩ := hrel
    by_cases hlt : k < n
    · have hr : wr.rangeAt b (o + k * 3) (cEnt (F k)).toList := HI.out.elem (by decide) M.below hlt
      obtain ⟨hok9, hf9⟩ := HFO.out k
      have HAP := Lib.hid (fun w S => applied_any (rpF f F k) hf9 hok9 (F k) (HF.out k hlt) A w S)
      go_upto_region 11 with (refine wpList_load_part rfl 50 _ rfl _ _ rfl (cEnt (F k)) _ hr Tryd.underlying50 rfl (by kernel_rfl) ?_)
      have M1 := M.alloc (cEnt (F k)) 50
      obtain ⟨eb, heb⟩ : ∃ eb, eb = wr.heap.size := ⟨_, rfl⟩
      rw [← heb] at M1 ⊢
      generalize World.alloc _ _ = W4 at M1 ⊢
      clear M heb hr
      rcases rp_codes f F k with h0 | ⟨c9, hc1, hc8, hc⟩
      · have HGO := Lib.hid (rpW_go hW9 h0)
        have h0' : apCode (rpF f F k) (F k) = 0 := h0
        have eo : apOut (rpF f F k) (F k) = rpF f F (k + 1) := by unfold apOut; rw [if_pos h0']; rfl
        have ee : apErr A (apCode (rpF f F k) (F k)) = .nilIface := by unfold apErr; rw [if_pos h0']
        rw [eo, ee] at HAP
        obtain ⟨_, _, _, _, _, _, _, q1, q2⟩ := ap_zero hok9 h0
        obtain ⟨q, hq⟩ : ∃ q : Nat, F k 0 = (q : Int) := ⟨(F k 0).toNat, by omega⟩
        have hq4 : q < 4 := by omega
        have HQ := Lib.hid hq
        obtain ⟨s1, s2⟩ := rpS_le HF.out k hk q
        obtain ⟨t1, t2⟩ := (HF.out k hlt).b2
        clear h0 h0' eo ee q1 q2 hq hok9 hf9
        obtain ⟨FF, hFF⟩ : ∃ FF, rpF f F (k + 1) = FF := ⟨_, rfl⟩
        have HFF := Lib.hid hFF
        rw [hFF] at HAP
        clear hFF
        go_upto_region 15 with (first
          | (refine wpList_load_part rfl 30 _ rfl (sb + 1) 0 rfl (fcells (rpF f F k)) _ (M1.at 5 rfl).whole Tryd.underlying30 rfl (by rw [fcells_size]; exact sizeFd) ?_)
          | (refine wpList_load_part rfl 50 _ rfl eb 0 rfl (cEnt (F k)) _ (M1.at 6 rfl).whole Tryd.underlying50 rfl (by kernel_rfl) ?_)
          | (go_at_call 29; refine (HAP.out _ (S.out.later M1.below)).mono ?_; rintro e W6 ⟨rfl, hb⟩; have M2 := M1.call hb; clear hb M1; have MA := M2.alloc Tryd.zeroCells30 30)
          | (refine wpList_store_row rfl 30 _ _ rfl W6.heap.size (fcells FF) rfl rfl 30 _ (MA.at 7 rfl) (by rw [fcells_size]; exact sizeFd) (by rw [hz.out, fcells_size]) (fcells_one _) ?_; have MB := MA.row 7 rfl (fcells FF); clear MA M2; obtain ⟨fb, hfb⟩ : ∃ fb, W6.heap.size = fb := ⟨_, rfl⟩; rw [hfb] at MB ⊢; clear hfb)
          | (refine wpList_load_part rfl 30 _ rfl fb 0 rfl (fcells FF) _ (MB.at 7 rfl).whole Tryd.underlying30 rfl (by rw [fcells_size]; exact sizeFd) ?_)
          | (refine wpList_store_row rfl 30 _ _ rfl (sb + 1) (fcells FF) rfl rfl 30 _ (MB.at 5 rfl) (by rw [fcells_size]; exact sizeFd) (by simp only [fcells_size]) (fcells_one _) ?_; have MC := MB.row 5 rfl (fcells FF); clear MB))
        generalize World.setRow _ _ _ = W7 at MC ⊢
        have M7 : Mem w W7 [⟨w.heap.size, fcells f, 30⟩, ⟨w.heap.size + 1, Tryd.zeroCells30, 30⟩, ⟨w.heap.size + 1 + 1, acells .i64 4 (fun _ => 0), 31⟩, ⟨nb, fcells f, 30⟩, ⟨sb, acells .i64 4 (rpS F k), 31⟩, ⟨sb + 1, fcells FF, 30⟩, ⟨eb, cEnt (F k), 50⟩, ⟨fb, fcells FF, 30⟩] := MC
        clear MC
        have hcv : IntKind.i64.wrap (F k 2) = F k 2 := wrap_i64R (by omega) (by omega)
        have had : IntKind.i64.wrap (rpS F k q + F k 2) = rpS F k q + F k 2 := wrap_i64R (by omega) (by omega)
        refine wp_region_rel_tail 9 (DL [dV (.pointer (some ⟨eb, 0, none⟩)), dV (.int .i8 (q : Int)), dV (.pointer (some ⟨sb, q, none⟩)), dV (.int .i64 (rpS F k q)), dV (.pointer (some ⟨eb, 2, none⟩)), dV (.int .i16 (F k 2)), dV (.int .i64 (F k 2)), dV (.int .i64 (rpS F k q + F k 2)), dV (.pointer (some ⟨sb, q, none⟩))]) (fun w' => Mem w w' [⟨w.heap.size, fcells f, 30⟩, ⟨w.heap.size + 1, Tryd.zeroCells30, 30⟩, ⟨w.heap.size + 1 + 1, acells .i64 4 (fun _ => 0), 31⟩, ⟨nb, fcells f, 30⟩, ⟨sb, acells .i64 4 (rpS F k), 31⟩, ⟨sb + 1, fcells FF, 30⟩, ⟨eb, cEnt (F k), 50⟩, ⟨fb, fcells FF, 30⟩]) (by kernel_rfl) (by kernel_rfl) grows_mem
          (stays_DL (fun d hd => by
            simp only [List.mem_cons, List.mem_nil_iff, or_false] at hd
            rcases hd with rfl | rfl | rfl | rfl | rfl | rfl | rfl | rfl | rfl <;> exact stay_V)) M7.drew ?_
        refine rel_val (.pointer (some ⟨eb, 0, none⟩)) rfl rfl (fun _ _ => by simp [execOp, Act.eval, go_sem]) (fun _ => ?_)
        simp only [Act.put, List.setIfInBounds_toArray, List.set_cons_zero, List.set_cons_succ]
        refine rel_cell 22 _ rfl (eb) (0) rfl (.int .i8 (q : Int)) rfl rfl (fun w' c => load_i8R _ _ _ w' c) (fun w' hw' => by have h := (hw'.at 6 rfl).cell (i := 0) (v := .int .i8 (F k 0)) rfl; rw [HQ.out] at h; exact h) (fun _ => ?_)
        simp only [Act.put, List.setIfInBounds_toArray, List.set_cons_zero, List.set_cons_succ]
        refine rel_val (.pointer (some ⟨sb, q, none⟩)) rfl rfl (fun w' _ => idxA4 rfl _ q rfl rfl hq4 w') (fun _ => ?_)
        simp only [Act.put, List.setIfInBounds_toArray, List.set_cons_zero, List.set_cons_succ]
        refine rel_cell 2 _ rfl (sb) (q) rfl (.int .i64 (rpS F k q)) rfl rfl (fun w' c => load_i64R _ _ _ w' c) (fun w' hw' => (hw'.at 4 rfl).cell (acells_get _ _ _ q hq4)) (fun _ => ?_)
        simp only [Act.put, List.setIfInBounds_toArray, List.set_cons_zero, List.set_cons_succ]
        refine rel_val (.pointer (some ⟨eb, 2, none⟩)) rfl rfl (fun _ _ => by simp [execOp, Act.eval, go_sem]) (fun _ => ?_)
        simp only [Act.put, List.setIfInBounds_toArray, List.set_cons_zero, List.set_cons_succ]
        refine rel_cell 24 _ rfl (eb) (2) rfl (.int .i16 (F k 2)) rfl rfl (fun w' c => load_i16R _ _ _ w' c) (fun w' hw' => (hw'.at 6 rfl).cell (i := 2) (v := .int .i16 (F k 2)) rfl) (fun _ => ?_)
        simp only [Act.put, List.setIfInBounds_toArray, List.set_cons_zero, List.set_cons_succ]
        refine rel_val (.int .i64 (F k 2)) rfl rfl (fun w' _ => by simp [execOp, Act.eval, go_sem, hcv]) (fun _ => ?_)
        simp only [Act.put, List.setIfInBounds_toArray, List.set_cons_zero, List.set_cons_succ]
        refine rel_val (.int .i64 (rpS F k q + F k 2)) rfl rfl (fun w' _ => by simp [execOp, Act.eval, go_sem, had]) (fun _ => ?_)
        simp only [Act.put, List.setIfInBounds_toArray, List.set_cons_zero, List.set_cons_succ]
        refine rel_val (.pointer (some ⟨sb, q, none⟩)) rfl rfl (fun w' _ => idxA4 rfl _ q rfl rfl hq4 w') (fun _ => ?_)
        simp only [Act.put, List.setIfInBounds_toArray, List.set_cons_zero, List.set_cons_succ]
        refine rel_nil (fun W8 inv => ?_)
        have M8 := inv.cls
        clear inv M7 hcv had
        have d6 := (M8.at 4 rfl).cell (acells_get .i64 4 (rpS F k) q hq4)
        have f6 := (M8.at 4 rfl).free q
        have M9 := M8.set 4 q (.int .i64 (rpS F k q + F k 2)) rfl _ (acells_set .i64 4 (rpS F k) q (rpS F k q + F k 2) hq4)
        have e7 : acells .i64 4 (fun j => if j = q then rpS F k q + F k 2 else rpS F k j) = acells .i64 4 (rpS F (k + 1)) := by
          show _ = acells .i64 4 (fun j => if j = (F k 0).toNat then rpS F k (F k 0).toNat + F k 2 else rpS F k j)
          rw [HQ.out]; rfl
        rw [e7] at M9
        have M10 := Mem.init (L := [⟨w.heap.size, fcells f, 30⟩, ⟨w.heap.size + 1, Tryd.zeroCells30, 30⟩, ⟨w.heap.size + 1 + 1, acells .i64 4 (fun _ => 0), 31⟩, ⟨nb, fcells f, 30⟩, ⟨sb, acells .i64 4 (rpS F (k + 1)), 31⟩, ⟨sb + 1, fcells FF, 30⟩]) (e := ⟨eb, cEnt (F k), 50⟩) (Mem.init (L := [⟨w.heap.size, fcells f, 30⟩, ⟨w.heap.size + 1, Tryd.zeroCells30, 30⟩, ⟨w.heap.size + 1 + 1, acells .i64 4 (fun _ => 0), 31⟩, ⟨nb, fcells f, 30⟩, ⟨sb, acells .i64 4 (rpS F (k + 1)), 31⟩, ⟨sb + 1, fcells FF, 30⟩, ⟨eb, cEnt (F k), 50⟩]) (e := ⟨fb, fcells FF, 30⟩) M9)
        rw [← HFF.out] at M10
        have HM7 := Lib.hid M10
        clear M8 M9 M10 e7
        change wpList _ _ _ [_] _ _
        go_wp2_with fail
        go_roundw
        case rel => exact ⟨k + 1, by omega, by go_num, HGO.out, HM7.out⟩
        case measure => simp [intOf]; omega
      · have HE := Lib.hid (rd_bad (A := A) HOK.out hn1 hlt hW9 hc1 hc)
        have hc' : apCode (rpF f F k) (F k) = (c9 : Int) := hc
        have eo : fcells (apOut (rpF f F k) (F k)) = Tryd.zeroCells30 := apOut_no hc' (by omega)
        have ee : apErr A (apCode (rpF f F k) (F k)) = errVal (A c9) := by unfold apErr; rw [hc', if_neg (by omega), Int.toNat_natCast]
        rw [eo, ee] at HAP
        clear hc hc' eo ee hok9 hf9
        go_wp2_with (first
          | (refine wpList_load_part rfl 30 _ rfl (sb + 1) 0 rfl (fcells (rpF f F k)) _ (M1.at 5 rfl).whole Tryd.underlying30 rfl (by rw [fcells_size]; exact sizeFd) ?_)
          | (refine wpList_load_part rfl 50 _ rfl eb 0 rfl (cEnt (F k)) _ (M1.at 6 rfl).whole Tryd.underlying50 rfl (by kernel_rfl) ?_)
          | (go_at_call 29; refine (HAP.out _ (S.out.later M1.below)).mono ?_; rintro e W6 ⟨rfl, hb⟩; have M2 := M1.call hb; clear hb M1; have MA := M2.alloc Tryd.zeroCells30 30)
          | (refine wpList_store_row rfl 30 _ _ rfl W6.heap.size Tryd.zeroCells30 rfl rfl 30 _ (MA.at 7 rfl) (by rw [hz.out]; exact sizeFd) (by rw [hz.out]) hz1.out ?_; have MB := MA.row 7 rfl Tryd.zeroCells30; clear MA M2)
          | (refine wpList_store_row rfl 30 _ _ rfl (w.heap.size + 1) Tryd.zeroCells30 rfl rfl 30 _ (MB.at 1 rfl) (by rw [hz.out]; exact sizeFd) (by rw [hz.out]) hz1.out ?_; have MX := MB.row 1 rfl Tryd.zeroCells30; clear MB)
          | (refine wpList_store_row rfl 31 _ _ rfl (w.heap.size + 1 + 1) (acells .i64 4 (fun _ => 0)) rfl rfl 31 _ (MX.at 2 rfl) (by rw [acells_size]; exact size4) (by simp only [acells_size]) (acells_one _ _ _) ?_; have MY := MX.row 2 rfl (acells .i64 4 (fun _ => 0)); clear MX))
        exact bodyPost_ret (results_row2_tmp rfl _ _ (w.heap.size + 1) (w.heap.size + 1 + 1) 30 31 _ _ _ _ rfl rfl (MY.at 1 rfl) (MY.at 2 rfl) Tryd.underlying30 rfl (by rw [hz.out]; exact sizeFd) Tryd.underlying31 rfl (by rw [acells_size]; exact size4)) rfl ⟨by rw [HE.out.1, HE.out.2.1, HE.out.2.2]; rfl, MY.below⟩
    · obtain rfl : k = n := by omega
      have HG := Lib.hid (rd_good (A := A) HOK.out hn1 hW9)
      go_upto_region 17 with (fail)
      have a0 : ∀ X, Mem w X [⟨w.heap.size, fcells f, 30⟩, ⟨w.heap.size + 1, Tryd.zeroCells30, 30⟩, ⟨w.heap.size + 1 + 1, acells .i64 4 (fun _ => 0), 31⟩, ⟨nb, fcells f, 30⟩, ⟨sb, acells .i64 4 (rpS F k), 31⟩, ⟨sb + 1, fcells (rpF f F k), 30⟩] → (Instr.loadAt 30 (.pointer (some ⟨sb + 1, 0, none⟩))).run Tryd.prog X = .ok (.agg (fcells (rpF f F k))) X := fun X MX => run_loadAt_part _ _ 0 30 (fcells (rpF f F k)) _ (MX.at 5 rfl).whole Tryd.underlying30 rfl (by rw [fcells_size]; exact sizeFd)
      have b0 : ∀ X, Mem w X [⟨w.heap.size, fcells f, 30⟩, ⟨w.heap.size + 1, Tryd.zeroCells30, 30⟩, ⟨w.heap.size + 1 + 1, acells .i64 4 (fun _ => 0), 31⟩, ⟨nb, fcells f, 30⟩, ⟨sb, acells .i64 4 (rpS F k), 31⟩, ⟨sb + 1, fcells (rpF f F k), 30⟩] → (Instr.loadAt 31 (.pointer (some ⟨sb, 0, none⟩))).run Tryd.prog X = .ok (.agg (acells .i64 4 (rpS F k))) X := fun X MX => run_loadAt_part _ _ 0 31 (acells .i64 4 (rpS F k)) _ (MX.at 4 rfl).whole Tryd.underlying31 rfl (by rw [acells_size]; exact size4)
      have b1 : ∀ X, Mem w X [⟨w.heap.size, fcells f, 30⟩, ⟨w.heap.size + 1, fcells (rpF f F k), 30⟩, ⟨w.heap.size + 1 + 1, acells .i64 4 (fun _ => 0), 31⟩, ⟨nb, fcells f, 30⟩, ⟨sb, acells .i64 4 (rpS F k), 31⟩, ⟨sb + 1, fcells (rpF f F k), 30⟩] → (Instr.loadAt 31 (.pointer (some ⟨sb, 0, none⟩))).run Tryd.prog X = .ok (.agg (acells .i64 4 (rpS F k))) X := fun X MX => run_loadAt_part _ _ 0 31 (acells .i64 4 (rpS F k)) _ (MX.at 4 rfl).whole Tryd.underlying31 rfl (by rw [acells_size]; exact size4)
      have s0 : ∀ X, Mem w X [⟨w.heap.size, fcells f, 30⟩, ⟨w.heap.size + 1, Tryd.zeroCells30, 30⟩, ⟨w.heap.size + 1 + 1, acells .i64 4 (fun _ => 0), 31⟩, ⟨nb, fcells f, 30⟩, ⟨sb, acells .i64 4 (rpS F k), 31⟩, ⟨sb + 1, fcells (rpF f F k), 30⟩] → ∃ Y, (Instr.storeAt 30 (.pointer (some ⟨w.heap.size + 1, 0, none⟩)) (.agg (fcells (rpF f F k)))).run Tryd.prog X = .ok () Y ∧ Mem w Y [⟨w.heap.size, fcells f, 30⟩, ⟨w.heap.size + 1, fcells (rpF f F k), 30⟩, ⟨w.heap.size + 1 + 1, acells .i64 4 (fun _ => 0), 31⟩, ⟨nb, fcells f, 30⟩, ⟨sb, acells .i64 4 (rpS F k), 31⟩, ⟨sb + 1, fcells (rpF f F k), 30⟩] := fun X MX => ⟨_, run_storeAt_mid (P := Tryd.prog) X (w.heap.size + 1) 0 30 (fcells (rpF f F k)) ((MX.at 1 rfl).there 0 _ (by rw [hz.out, fcells_size]; omega)) (by rw [fcells_size]; exact sizeFd) (fcells_one _), MX.cells 1 0 (fcells (rpF f F k)).toList rfl (fcells (rpF f F k)) ((MX.at 1 rfl).over (fcells (rpF f F k)) (by rw [hz.out, fcells_size]))⟩
      have s1 : ∀ X, Mem w X [⟨w.heap.size, fcells f, 30⟩, ⟨w.heap.size + 1, fcells (rpF f F k), 30⟩, ⟨w.heap.size + 1 + 1, acells .i64 4 (fun _ => 0), 31⟩, ⟨nb, fcells f, 30⟩, ⟨sb, acells .i64 4 (rpS F k), 31⟩, ⟨sb + 1, fcells (rpF f F k), 30⟩] → ∃ Y, (Instr.storeAt 31 (.pointer (some ⟨w.heap.size + 1 + 1, 0, none⟩)) (.agg (acells .i64 4 (rpS F k)))).run Tryd.prog X = .ok () Y ∧ Mem w Y [⟨w.heap.size, fcells f, 30⟩, ⟨w.heap.size + 1, fcells (rpF f F k), 30⟩, ⟨w.heap.size + 1 + 1, acells .i64 4 (rpS F k), 31⟩, ⟨nb, fcells f, 30⟩, ⟨sb, acells .i64 4 (rpS F k), 31⟩, ⟨sb + 1, fcells (rpF f F k), 30⟩] := fun X MX => ⟨_, run_storeAt_mid (P := Tryd.prog) X (w.heap.size + 1 + 1) 0 31 (acells .i64 4 (rpS F k)) ((MX.at 2 rfl).there 0 _ (by simp only [acells_size]; omega)) (by rw [acells_size]; exact size4) (acells_one _ _ _), MX.cells 2 0 (acells .i64 4 (rpS F k)).toList rfl (acells .i64 4 (rpS F k)) ((MX.at 2 rfl).over (acells .i64 4 (rpS F k)) (by simp only [acells_size]))⟩
      have MM := M.drew
      clear M
      refine wp_region_any (by kernel_rfl) ?_
      refine wpAny_all (rs := [0, 1]) (by kernel_rfl) (by decide) (two_of7 ?_ ?_)
      · refine any_val7 (.agg (fcells (rpF f F k))) 61 rfl rfl rfl (exec_load7 rfl rfl (a0 _ MM)) ?_
        simp only [Act.put]
        refine wpAny_all (rs := [1, 2]) (by kernel_rfl) (by decide) (two_of7 ?_ ?_)
        · refine any_val7 (.agg (acells .i64 4 (rpS F k))) 62 rfl rfl rfl (exec_load7 rfl rfl (b0 _ MM)) ?_
          simp only [Act.put]
          refine wpAny_all (rs := [2]) (by kernel_rfl) (by decide) (one_of7 ?_)
          obtain ⟨Y, hY, MM⟩ := s0 _ MM
          refine any_skip7 rfl rfl (exec_store7 rfl rfl rfl hY) ?_
          simp only [Act.put]
          refine wpAny_all (rs := [3]) (by kernel_rfl) (by decide) (one_of7 ?_)
          obtain ⟨Y, hY, MM⟩ := s1 _ MM
          refine any_skip7 rfl rfl (exec_store7 rfl rfl rfl hY) ?_
          simp only [Act.put]
          refine wpAny_all (rs := [4]) (by kernel_rfl) (by decide) (one_of7 ?_)
          refine any_val7 (.nilIface) 6 rfl rfl rfl (rfl) ?_
          simp only [Act.put]
          refine wpAny_done (by kernel_rfl) ?_ _
          go_wp2_with fail
          exact bodyPost_ret (results_row2_tmp rfl _ _ (w.heap.size + 1) (w.heap.size + 1 + 1) 30 31 _ _ _ _ rfl rfl (MM.at 1 rfl) (MM.at 2 rfl) Tryd.underlying30 rfl (by rw [fcells_size]; exact sizeFd) Tryd.underlying31 rfl (by rw [acells_size]; exact size4)) rfl ⟨by rw [HG.out.1, HG.out.2.1, HG.out.2.2]; rfl, MM.below⟩
        · obtain ⟨Y, hY, MM⟩ := s0 _ MM
          refine any_skip7 rfl rfl (exec_store7 rfl rfl rfl hY) ?_
          simp only [Act.put]
          refine wpAny_all (rs := [1]) (by kernel_rfl) (by decide) (one_of7 ?_)
          refine any_val7 (.agg (acells .i64 4 (rpS F k))) 62 rfl rfl rfl (exec_load7 rfl rfl (b1 _ MM)) ?_
          simp only [Act.put]
          refine wpAny_all (rs := [3]) (by kernel_rfl) (by decide) (one_of7 ?_)
          obtain ⟨Y, hY, MM⟩ := s1 _ MM
          refine any_skip7 rfl rfl (exec_store7 rfl rfl rfl hY) ?_
          simp only [Act.put]
          refine wpAny_all (rs := [4]) (by kernel_rfl) (by decide) (one_of7 ?_)
          refine any_val7 (.nilIface) 6 rfl rfl rfl (rfl) ?_
          simp only [Act.put]
          refine wpAny_done (by kernel_rfl) ?_ _
          go_wp2_with fail
          exact bodyPost_ret (results_row2_tmp rfl _ _ (w.heap.size + 1) (w.heap.size + 1 + 1) 30 31 _ _ _ _ rfl rfl (MM.at 1 rfl) (MM.at 2 rfl) Tryd.underlying30 rfl (by rw [fcells_size]; exact sizeFd) Tryd.underlying31 rfl (by rw [acells_size]; exact size4)) rfl ⟨by rw [HG.out.1, HG.out.2.1, HG.out.2.2]; rfl, MM.below⟩
      · refine any_val7 (.agg (acells .i64 4 (rpS F k))) 62 rfl rfl rfl (exec_load7 rfl rfl (b0 _ MM)) ?_
        simp only [Act.put]
        refine wpAny_all (rs := [0]) (by kernel_rfl) (by decide) (one_of7 ?_)
        refine any_val7 (.agg (fcells (rpF f F k))) 61 rfl rfl rfl (exec_load7 rfl rfl (a0 _ MM)) ?_
        simp only [Act.put]
        refine wpAny_all (rs := [2]) (by kernel_rfl) (by decide) (one_of7 ?_)
        obtain ⟨Y, hY, MM⟩ := s0 _ MM
        refine any_skip7 rfl rfl (exec_store7 rfl rfl rfl hY) ?_
        simp only [Act.put]
        refine wpAny_all (rs := [3]) (by kernel_rfl) (by decide) (one_of7 ?_)
        obtain ⟨Y, hY, MM⟩ := s1 _ MM
        refine any_skip7 rfl rfl (exec_store7 rfl rfl rfl hY) ?_
        simp only [Act.put]
        refine wpAny_all (rs := [4]) (by kernel_rfl) (by decide) (one_of7 ?_)
        refine any_val7 (.nilIface) 6 rfl rfl rfl (rfl) ?_
        simp only [Act.put]
        refine wpAny_done (by kernel_rfl) ?_ _
        go_wp2_with fail
        exact bodyPost_ret (results_row2_tmp rfl _ _ (w.heap.size + 1) (w.heap.size + 1 + 1) 30 31 _ _ _ _ rfl rfl (MM.at 1 rfl) (MM.at 2 rfl) Tryd.underlying30 rfl (by rw [fcells_size]; exact sizeFd) Tryd.underlying31 rfl (by rw [acells_size]; exact size4)) rfl ⟨by rw [HG.out.1, HG.out.2.1, HG.out.2.2]; rfl, MM.below⟩
theorem rpW_ne {f : Fd} {F : Nat → Nat → Int} : ∀ n, rpW f F n ≠ n → rpC f F (rpW f F n) ≠ 0
  | 0, h => absurd rfl h
  | n + 1, h => by
    by_cases h1 : rpW f F n = n ∧ rpC f F n = 0
    · exact absurd (rpW_go h1.1 h1.2) h
    · have e : rpW f F (n + 1) = rpW f F n := by
        show (if rpW f F n = n ∧ rpC f F n = 0 then n + 1 else rpW f F n) = rpW f F n
        rw [if_neg h1]
      rw [e]
      by_cases h2 : rpW f F n = n
      · rw [h2]; exact fun h3 => h1 ⟨h2, h3⟩
      · exact rpW_ne n h2
theorem rdCode_err (A : Nat → Addr) (f : Fd) (n : Nat) (F : Nat → Nat → Int) (w : World) (S : Sents w A) : Calls Tryd.prog 21 #[rdErr A f n F] w fun e w' => e = .returned (.int .i64 (rdCode f n F)) ∧ Below w.heap.size w w' := by
  unfold rdErr rdCode
  cases hok : okF f with
  | false => exact (codeOf_err A 1 (by omega) (by omega) w S).mono (fun e w2 h => ⟨h.1, by rw [← h.2]; exact Below.refl _ _⟩)
  | true =>
    rw [if_pos rfl, if_pos rfl]
    by_cases hb : 100 < n
    · rw [if_pos hb, if_pos hb]; exact (codeOf_err A 3 (by omega) (by omega) w S).mono (fun e w2 h => ⟨h.1, by rw [← h.2]; exact Below.refl _ _⟩)
    · rw [if_neg hb, if_neg hb]
      unfold roCode
      by_cases hw : rpW f F n = n
      · rw [if_pos hw, if_pos hw]; exact (codeOf_nil A w S).mono (fun e w2 h => ⟨h.1, by rw [← h.2]; exact Below.refl _ _⟩)
      · rw [if_neg hw, if_neg hw]
        rcases rp_codes f F (rpW f F n) with h0 | ⟨c9, hc1, hc8, hc⟩
        · exact absurd h0 (rpW_ne n hw)
        · rw [hc, Int.toNat_natCast]; exact codeOf_wr _ A c9 hc1 hc8 w S
set_option maxRecDepth 100000 in
set_option maxHeartbeats 8000000 in
theorem implReplayDiary (f : Fd) (hf : f.Wf) (n : Nat) (hn : n ≤ 2 ^ 40) (F : Nat → Nat → Int) (hF : ∀ i, i < n → WfEn (F i)) (b o c : Nat) (A : Nat → Addr) (w : World) (S0 : Sents w A) (I : InS w b o n ksEntry F) :
    Calls Tryd.prog 9 #[.agg (fcells f), .slice (some ⟨b, o, none⟩) n c] w fun e w' => e = .returned (.tuple #[.agg (fcells (rdF f n F)), .agg (acells .i64 4 (rdS f n F)), .int .i64 (rdCode f n F)]) ∧ Below w.heap.size w w' := by
  have HI := Lib.hid I
  have S := Lib.hid S0
  have hz : Hid (Tryd.zeroCells30.size = 202) := Lib.hid (by rw [zeroFd, fcells_size])
  have hz1 : Hid (Tryd.zeroCells30.all (·.oneCell') = true) := Lib.hid (by rw [zeroFd]; exact fcells_one _)
  have HR := Lib.hid (fun w S I => replayed_any f hf n hn F hF b o c A w S I)
  have HCE := Lib.hid (fun w S => rdCode_err A f n F w S)
  obtain ⟨FF, hFF⟩ : ∃ FF, rdF f n F = FF := ⟨_, rfl⟩
  obtain ⟨S9, hS9⟩ : ∃ S9, rdS f n F = S9 := ⟨_, rfl⟩
  obtain ⟨c9, hc9⟩ : ∃ c9, rdCode f n F = c9 := ⟨_, rfl⟩
  obtain ⟨er, her⟩ : ∃ er, rdErr A f n F = er := ⟨_, rfl⟩
  rw [hFF, hS9, her] at HR
  rw [her, hc9] at HCE
  rw [hFF, hS9, hc9]
  clear I S0 hF hFF hS9 hc9 her
  go_enter Tryd.func9, Tryd.ntmps9
  go_upto_region 1 with (fail)
  obtain ⟨W, hW, M⟩ := open3 w (fcells f) 30 Tryd.zeroCells30 30 (acells .i64 4 (fun _ => 0)) 31
  rw [zero4] at hW
  rw [hW]; clear hW
  go_upto_region 2 with (first
    | (refine wpList_load_part rfl 30 _ rfl w.heap.size 0 rfl (fcells f) _ (M.at 0 rfl).whole Tryd.underlying30 rfl (by rw [fcells_size]; exact sizeFd) ?_)
    | (go_at_call 20; refine (HR.out _ (S.out.later M.below) (HI.out.later M.below)).mono ?_; rintro e W2 ⟨rfl, hb⟩; have M2 := M.call hb; clear hb M; have MA := (M2.alloc Tryd.zeroCells30 30).alloc #[.int .i64 0, .int .i64 0, .int .i64 0, .int .i64 0] 31)
    | (refine wpList_store_row rfl 30 _ _ rfl W2.heap.size (fcells FF) rfl rfl 30 _ (MA.at 3 rfl) (by rw [fcells_size]; exact sizeFd) (by rw [hz.out, fcells_size]) (fcells_one _) ?_; have MB := MA.row 3 rfl (fcells FF); clear MA)
    | (refine wpList_store_row rfl 31 _ _ rfl (W2.heap.size + 1) (acells .i64 4 S9) rfl rfl 31 _ (MB.at 4 (by simp only [World.size_alloc]; rfl)) (by rw [acells_size]; exact size4) (by rw [acells_size]; rfl) (acells_one _ _ _) ?_; have MC := MB.row 4 rfl (acells .i64 4 S9); clear MB))
  simp only [World.size_alloc] at MC
  obtain ⟨nb, hnb⟩ : ∃ nb, W2.heap.size = nb := ⟨_, rfl⟩
  rw [hnb] at MC ⊢
  generalize World.setRow _ _ _ = V7 at MC ⊢
  have M7 : Mem w V7 [⟨w.heap.size, fcells f, 30⟩, ⟨w.heap.size + 1, Tryd.zeroCells30, 30⟩, ⟨w.heap.size + 1 + 1, acells .i64 4 (fun _ => 0), 31⟩, ⟨nb, fcells FF, 30⟩, ⟨nb + 1, acells .i64 4 S9, 31⟩] := MC
  clear MC hnb
  have c0 : ∀ X, Mem w X [⟨w.heap.size, fcells f, 30⟩, ⟨w.heap.size + 1, Tryd.zeroCells30, 30⟩, ⟨w.heap.size + 1 + 1, acells .i64 4 (fun _ => 0), 31⟩, ⟨nb, fcells FF, 30⟩, ⟨nb + 1, acells .i64 4 S9, 31⟩] → Calls Tryd.prog 21 #[er] X fun e w' => e = .returned (.int .i64 c9) ∧ Below X.heap.size X w' := fun X MX => HCE.out X (S.out.later MX.below)
  have a0 : ∀ X, Mem w X [⟨w.heap.size, fcells f, 30⟩, ⟨w.heap.size + 1, Tryd.zeroCells30, 30⟩, ⟨w.heap.size + 1 + 1, acells .i64 4 (fun _ => 0), 31⟩, ⟨nb, fcells FF, 30⟩, ⟨nb + 1, acells .i64 4 S9, 31⟩] → (Instr.loadAt 30 (.pointer (some ⟨nb, 0, none⟩))).run Tryd.prog X = .ok (.agg (fcells FF)) X := fun X MX => run_loadAt_part _ _ 0 30 (fcells FF) _ (MX.at 3 rfl).whole Tryd.underlying30 rfl (by rw [fcells_size]; exact sizeFd)
  have b0 : ∀ X, Mem w X [⟨w.heap.size, fcells f, 30⟩, ⟨w.heap.size + 1, Tryd.zeroCells30, 30⟩, ⟨w.heap.size + 1 + 1, acells .i64 4 (fun _ => 0), 31⟩, ⟨nb, fcells FF, 30⟩, ⟨nb + 1, acells .i64 4 S9, 31⟩] → (Instr.loadAt 31 (.pointer (some ⟨nb + 1, 0, none⟩))).run Tryd.prog X = .ok (.agg (acells .i64 4 S9)) X := fun X MX => run_loadAt_part _ _ 0 31 (acells .i64 4 S9) _ (MX.at 4 rfl).whole Tryd.underlying31 rfl (by rw [acells_size]; exact size4)
  have b1 : ∀ X, Mem w X [⟨w.heap.size, fcells f, 30⟩, ⟨w.heap.size + 1, fcells FF, 30⟩, ⟨w.heap.size + 1 + 1, acells .i64 4 (fun _ => 0), 31⟩, ⟨nb, fcells FF, 30⟩, ⟨nb + 1, acells .i64 4 S9, 31⟩] → (Instr.loadAt 31 (.pointer (some ⟨nb + 1, 0, none⟩))).run Tryd.prog X = .ok (.agg (acells .i64 4 S9)) X := fun X MX => run_loadAt_part _ _ 0 31 (acells .i64 4 S9) _ (MX.at 4 rfl).whole Tryd.underlying31 rfl (by rw [acells_size]; exact size4)
  have s0 : ∀ X, Mem w X [⟨w.heap.size, fcells f, 30⟩, ⟨w.heap.size + 1, Tryd.zeroCells30, 30⟩, ⟨w.heap.size + 1 + 1, acells .i64 4 (fun _ => 0), 31⟩, ⟨nb, fcells FF, 30⟩, ⟨nb + 1, acells .i64 4 S9, 31⟩] → ∃ Y, (Instr.storeAt 30 (.pointer (some ⟨w.heap.size + 1, 0, none⟩)) (.agg (fcells FF))).run Tryd.prog X = .ok () Y ∧ Mem w Y [⟨w.heap.size, fcells f, 30⟩, ⟨w.heap.size + 1, fcells FF, 30⟩, ⟨w.heap.size + 1 + 1, acells .i64 4 (fun _ => 0), 31⟩, ⟨nb, fcells FF, 30⟩, ⟨nb + 1, acells .i64 4 S9, 31⟩] := fun X MX => ⟨_, run_storeAt_mid (P := Tryd.prog) X (w.heap.size + 1) 0 30 (fcells FF) ((MX.at 1 rfl).there 0 _ (by rw [hz.out, fcells_size]; omega)) (by rw [fcells_size]; exact sizeFd) (fcells_one _), MX.cells 1 0 (fcells FF).toList rfl (fcells FF) ((MX.at 1 rfl).over (fcells FF) (by rw [hz.out, fcells_size]))⟩
  have s1 : ∀ X, Mem w X [⟨w.heap.size, fcells f, 30⟩, ⟨w.heap.size + 1, fcells FF, 30⟩, ⟨w.heap.size + 1 + 1, acells .i64 4 (fun _ => 0), 31⟩, ⟨nb, fcells FF, 30⟩, ⟨nb + 1, acells .i64 4 S9, 31⟩] → ∃ Y, (Instr.storeAt 31 (.pointer (some ⟨w.heap.size + 1 + 1, 0, none⟩)) (.agg (acells .i64 4 S9))).run Tryd.prog X = .ok () Y ∧ Mem w Y [⟨w.heap.size, fcells f, 30⟩, ⟨w.heap.size + 1, fcells FF, 30⟩, ⟨w.heap.size + 1 + 1, acells .i64 4 S9, 31⟩, ⟨nb, fcells FF, 30⟩, ⟨nb + 1, acells .i64 4 S9, 31⟩] := fun X MX => ⟨_, run_storeAt_mid (P := Tryd.prog) X (w.heap.size + 1 + 1) 0 31 (acells .i64 4 S9) ((MX.at 2 rfl).there 0 _ (by simp only [acells_size]; omega)) (by rw [acells_size]; exact size4) (acells_one _ _ _), MX.cells 2 0 (acells .i64 4 S9).toList rfl (acells .i64 4 S9) ((MX.at 2 rfl).over (acells .i64 4 S9) (by simp only [acells_size]))⟩
  have MM := M7.drew
  clear M7
  refine wp_region_any (by kernel_rfl) ?_
  refine wpAny_all (rs := [0, 1, 2]) (by kernel_rfl) (by decide) (three_of7 ?_ ?_ ?_)
  · refine any_val7 (.agg (fcells FF)) 17 rfl rfl rfl (exec_load7 rfl rfl (a0 _ MM)) ?_
    simp only [Act.put]
    refine wpAny_all (rs := [1, 2]) (by kernel_rfl) (by decide) (two_of7 ?_ ?_)
    · refine any_val7 (.agg (acells .i64 4 S9)) 18 rfl rfl rfl (exec_load7 rfl rfl (b0 _ MM)) ?_
      simp only [Act.put]
      refine wpAny_all (rs := [2]) (by kernel_rfl) (by decide) (one_of7 ?_)
      refine any_val7 (er) 19 rfl rfl rfl (rfl) ?_
      simp only [Act.put]
      refine wpAny_all (rs := [3]) (by kernel_rfl) (by decide) (one_of7 ?_)
      refine any_call7 (.int .i64 c9) 20 21 #[er] rfl rfl rfl rfl rfl (enters_of Tryd.func21 (by kernel_rfl) rfl) (c0 _ MM) (fun w9 hb9 => ?_)
      have MM := MM.call hb9
      simp only [Act.put]
      refine wpAny_all (rs := [4]) (by kernel_rfl) (by decide) (one_of7 ?_)
      obtain ⟨Y, hY, MM⟩ := s0 _ MM
      refine any_skip7 rfl rfl (exec_store7 rfl rfl rfl hY) ?_
      simp only [Act.put]
      refine wpAny_all (rs := [5]) (by kernel_rfl) (by decide) (one_of7 ?_)
      obtain ⟨Y, hY, MM⟩ := s1 _ MM
      refine any_skip7 rfl rfl (exec_store7 rfl rfl rfl hY) ?_
      simp only [Act.put]
      refine wpAny_all (rs := [6]) (by kernel_rfl) (by decide) (one_of7 ?_)
      refine any_val7 (.int .i64 c9) 6 rfl rfl rfl (rfl) ?_
      simp only [Act.put]
      refine wpAny_done (by kernel_rfl) ?_ _
      go_wp2_with fail
      exact bodyPost_ret (results_row2_tmp rfl _ _ (w.heap.size + 1) (w.heap.size + 1 + 1) 30 31 _ _ _ _ rfl rfl (MM.at 1 rfl) (MM.at 2 rfl) Tryd.underlying30 rfl (by rw [fcells_size]; exact sizeFd) Tryd.underlying31 rfl (by rw [acells_size]; exact size4)) rfl ⟨rfl, MM.below⟩
    · refine any_val7 (er) 19 rfl rfl rfl (rfl) ?_
      simp only [Act.put]
      refine wpAny_all (rs := [1, 3]) (by kernel_rfl) (by decide) (two_of7 ?_ ?_)
      · refine any_val7 (.agg (acells .i64 4 S9)) 18 rfl rfl rfl (exec_load7 rfl rfl (b0 _ MM)) ?_
        simp only [Act.put]
        refine wpAny_all (rs := [3]) (by kernel_rfl) (by decide) (one_of7 ?_)
        refine any_call7 (.int .i64 c9) 20 21 #[er] rfl rfl rfl rfl rfl (enters_of Tryd.func21 (by kernel_rfl) rfl) (c0 _ MM) (fun w9 hb9 => ?_)
        have MM := MM.call hb9
        simp only [Act.put]
        refine wpAny_all (rs := [4]) (by kernel_rfl) (by decide) (one_of7 ?_)
        obtain ⟨Y, hY, MM⟩ := s0 _ MM
        refine any_skip7 rfl rfl (exec_store7 rfl rfl rfl hY) ?_
        simp only [Act.put]
        refine wpAny_all (rs := [5]) (by kernel_rfl) (by decide) (one_of7 ?_)
        obtain ⟨Y, hY, MM⟩ := s1 _ MM
        refine any_skip7 rfl rfl (exec_store7 rfl rfl rfl hY) ?_
        simp only [Act.put]
        refine wpAny_all (rs := [6]) (by kernel_rfl) (by decide) (one_of7 ?_)
        refine any_val7 (.int .i64 c9) 6 rfl rfl rfl (rfl) ?_
        simp only [Act.put]
        refine wpAny_done (by kernel_rfl) ?_ _
        go_wp2_with fail
        exact bodyPost_ret (results_row2_tmp rfl _ _ (w.heap.size + 1) (w.heap.size + 1 + 1) 30 31 _ _ _ _ rfl rfl (MM.at 1 rfl) (MM.at 2 rfl) Tryd.underlying30 rfl (by rw [fcells_size]; exact sizeFd) Tryd.underlying31 rfl (by rw [acells_size]; exact size4)) rfl ⟨rfl, MM.below⟩
      · refine any_call7 (.int .i64 c9) 20 21 #[er] rfl rfl rfl rfl rfl (enters_of Tryd.func21 (by kernel_rfl) rfl) (c0 _ MM) (fun w9 hb9 => ?_)
        have MM := MM.call hb9
        simp only [Act.put]
        refine wpAny_all (rs := [1, 4]) (by kernel_rfl) (by decide) (two_of7 ?_ ?_)
        · refine any_val7 (.agg (acells .i64 4 S9)) 18 rfl rfl rfl (exec_load7 rfl rfl (b0 _ MM)) ?_
          simp only [Act.put]
          refine wpAny_all (rs := [4]) (by kernel_rfl) (by decide) (one_of7 ?_)
          obtain ⟨Y, hY, MM⟩ := s0 _ MM
          refine any_skip7 rfl rfl (exec_store7 rfl rfl rfl hY) ?_
          simp only [Act.put]
          refine wpAny_all (rs := [5]) (by kernel_rfl) (by decide) (one_of7 ?_)
          obtain ⟨Y, hY, MM⟩ := s1 _ MM
          refine any_skip7 rfl rfl (exec_store7 rfl rfl rfl hY) ?_
          simp only [Act.put]
          refine wpAny_all (rs := [6]) (by kernel_rfl) (by decide) (one_of7 ?_)
          refine any_val7 (.int .i64 c9) 6 rfl rfl rfl (rfl) ?_
          simp only [Act.put]
          refine wpAny_done (by kernel_rfl) ?_ _
          go_wp2_with fail
          exact bodyPost_ret (results_row2_tmp rfl _ _ (w.heap.size + 1) (w.heap.size + 1 + 1) 30 31 _ _ _ _ rfl rfl (MM.at 1 rfl) (MM.at 2 rfl) Tryd.underlying30 rfl (by rw [fcells_size]; exact sizeFd) Tryd.underlying31 rfl (by rw [acells_size]; exact size4)) rfl ⟨rfl, MM.below⟩
        · obtain ⟨Y, hY, MM⟩ := s0 _ MM
          refine any_skip7 rfl rfl (exec_store7 rfl rfl rfl hY) ?_
          simp only [Act.put]
          refine wpAny_all (rs := [1]) (by kernel_rfl) (by decide) (one_of7 ?_)
          refine any_val7 (.agg (acells .i64 4 S9)) 18 rfl rfl rfl (exec_load7 rfl rfl (b1 _ MM)) ?_
          simp only [Act.put]
          refine wpAny_all (rs := [5]) (by kernel_rfl) (by decide) (one_of7 ?_)
          obtain ⟨Y, hY, MM⟩ := s1 _ MM
          refine any_skip7 rfl rfl (exec_store7 rfl rfl rfl hY) ?_
          simp only [Act.put]
          refine wpAny_all (rs := [6]) (by kernel_rfl) (by decide) (one_of7 ?_)
          refine any_val7 (.int .i64 c9) 6 rfl rfl rfl (rfl) ?_
          simp only [Act.put]
          refine wpAny_done (by kernel_rfl) ?_ _
          go_wp2_with fail
          exact bodyPost_ret (results_row2_tmp rfl _ _ (w.heap.size + 1) (w.heap.size + 1 + 1) 30 31 _ _ _ _ rfl rfl (MM.at 1 rfl) (MM.at 2 rfl) Tryd.underlying30 rfl (by rw [fcells_size]; exact sizeFd) Tryd.underlying31 rfl (by rw [acells_size]; exact size4)) rfl ⟨rfl, MM.below⟩
  · refine any_val7 (.agg (acells .i64 4 S9)) 18 rfl rfl rfl (exec_load7 rfl rfl (b0 _ MM)) ?_
    simp only [Act.put]
    refine wpAny_all (rs := [0, 2]) (by kernel_rfl) (by decide) (two_of7 ?_ ?_)
    · refine any_val7 (.agg (fcells FF)) 17 rfl rfl rfl (exec_load7 rfl rfl (a0 _ MM)) ?_
      simp only [Act.put]
      refine wpAny_all (rs := [2]) (by kernel_rfl) (by decide) (one_of7 ?_)
      refine any_val7 (er) 19 rfl rfl rfl (rfl) ?_
      simp only [Act.put]
      refine wpAny_all (rs := [3]) (by kernel_rfl) (by decide) (one_of7 ?_)
      refine any_call7 (.int .i64 c9) 20 21 #[er] rfl rfl rfl rfl rfl (enters_of Tryd.func21 (by kernel_rfl) rfl) (c0 _ MM) (fun w9 hb9 => ?_)
      have MM := MM.call hb9
      simp only [Act.put]
      refine wpAny_all (rs := [4]) (by kernel_rfl) (by decide) (one_of7 ?_)
      obtain ⟨Y, hY, MM⟩ := s0 _ MM
      refine any_skip7 rfl rfl (exec_store7 rfl rfl rfl hY) ?_
      simp only [Act.put]
      refine wpAny_all (rs := [5]) (by kernel_rfl) (by decide) (one_of7 ?_)
      obtain ⟨Y, hY, MM⟩ := s1 _ MM
      refine any_skip7 rfl rfl (exec_store7 rfl rfl rfl hY) ?_
      simp only [Act.put]
      refine wpAny_all (rs := [6]) (by kernel_rfl) (by decide) (one_of7 ?_)
      refine any_val7 (.int .i64 c9) 6 rfl rfl rfl (rfl) ?_
      simp only [Act.put]
      refine wpAny_done (by kernel_rfl) ?_ _
      go_wp2_with fail
      exact bodyPost_ret (results_row2_tmp rfl _ _ (w.heap.size + 1) (w.heap.size + 1 + 1) 30 31 _ _ _ _ rfl rfl (MM.at 1 rfl) (MM.at 2 rfl) Tryd.underlying30 rfl (by rw [fcells_size]; exact sizeFd) Tryd.underlying31 rfl (by rw [acells_size]; exact size4)) rfl ⟨rfl, MM.below⟩
    · refine any_val7 (er) 19 rfl rfl rfl (rfl) ?_
      simp only [Act.put]
      refine wpAny_all (rs := [0, 3]) (by kernel_rfl) (by decide) (two_of7 ?_ ?_)
      · refine any_val7 (.agg (fcells FF)) 17 rfl rfl rfl (exec_load7 rfl rfl (a0 _ MM)) ?_
        simp only [Act.put]
        refine wpAny_all (rs := [3]) (by kernel_rfl) (by decide) (one_of7 ?_)
        refine any_call7 (.int .i64 c9) 20 21 #[er] rfl rfl rfl rfl rfl (enters_of Tryd.func21 (by kernel_rfl) rfl) (c0 _ MM) (fun w9 hb9 => ?_)
        have MM := MM.call hb9
        simp only [Act.put]
        refine wpAny_all (rs := [4]) (by kernel_rfl) (by decide) (one_of7 ?_)
        obtain ⟨Y, hY, MM⟩ := s0 _ MM
        refine any_skip7 rfl rfl (exec_store7 rfl rfl rfl hY) ?_
        simp only [Act.put]
        refine wpAny_all (rs := [5]) (by kernel_rfl) (by decide) (one_of7 ?_)
        obtain ⟨Y, hY, MM⟩ := s1 _ MM
        refine any_skip7 rfl rfl (exec_store7 rfl rfl rfl hY) ?_
        simp only [Act.put]
        refine wpAny_all (rs := [6]) (by kernel_rfl) (by decide) (one_of7 ?_)
        refine any_val7 (.int .i64 c9) 6 rfl rfl rfl (rfl) ?_
        simp only [Act.put]
        refine wpAny_done (by kernel_rfl) ?_ _
        go_wp2_with fail
        exact bodyPost_ret (results_row2_tmp rfl _ _ (w.heap.size + 1) (w.heap.size + 1 + 1) 30 31 _ _ _ _ rfl rfl (MM.at 1 rfl) (MM.at 2 rfl) Tryd.underlying30 rfl (by rw [fcells_size]; exact sizeFd) Tryd.underlying31 rfl (by rw [acells_size]; exact size4)) rfl ⟨rfl, MM.below⟩
      · refine any_call7 (.int .i64 c9) 20 21 #[er] rfl rfl rfl rfl rfl (enters_of Tryd.func21 (by kernel_rfl) rfl) (c0 _ MM) (fun w9 hb9 => ?_)
        have MM := MM.call hb9
        simp only [Act.put]
        refine wpAny_all (rs := [0]) (by kernel_rfl) (by decide) (one_of7 ?_)
        refine any_val7 (.agg (fcells FF)) 17 rfl rfl rfl (exec_load7 rfl rfl (a0 _ MM)) ?_
        simp only [Act.put]
        refine wpAny_all (rs := [4]) (by kernel_rfl) (by decide) (one_of7 ?_)
        obtain ⟨Y, hY, MM⟩ := s0 _ MM
        refine any_skip7 rfl rfl (exec_store7 rfl rfl rfl hY) ?_
        simp only [Act.put]
        refine wpAny_all (rs := [5]) (by kernel_rfl) (by decide) (one_of7 ?_)
        obtain ⟨Y, hY, MM⟩ := s1 _ MM
        refine any_skip7 rfl rfl (exec_store7 rfl rfl rfl hY) ?_
        simp only [Act.put]
        refine wpAny_all (rs := [6]) (by kernel_rfl) (by decide) (one_of7 ?_)
        refine any_val7 (.int .i64 c9) 6 rfl rfl rfl (rfl) ?_
        simp only [Act.put]
        refine wpAny_done (by kernel_rfl) ?_ _
        go_wp2_with fail
        exact bodyPost_ret (results_row2_tmp rfl _ _ (w.heap.size + 1) (w.heap.size + 1 + 1) 30 31 _ _ _ _ rfl rfl (MM.at 1 rfl) (MM.at 2 rfl) Tryd.underlying30 rfl (by rw [fcells_size]; exact sizeFd) Tryd.underlying31 rfl (by rw [acells_size]; exact size4)) rfl ⟨rfl, MM.below⟩
  · refine any_val7 (er) 19 rfl rfl rfl (rfl) ?_
    simp only [Act.put]
    refine wpAny_all (rs := [0, 1, 3]) (by kernel_rfl) (by decide) (three_of7 ?_ ?_ ?_)
    · refine any_val7 (.agg (fcells FF)) 17 rfl rfl rfl (exec_load7 rfl rfl (a0 _ MM)) ?_
      simp only [Act.put]
      refine wpAny_all (rs := [1, 3]) (by kernel_rfl) (by decide) (two_of7 ?_ ?_)
      · refine any_val7 (.agg (acells .i64 4 S9)) 18 rfl rfl rfl (exec_load7 rfl rfl (b0 _ MM)) ?_
        simp only [Act.put]
        refine wpAny_all (rs := [3]) (by kernel_rfl) (by decide) (one_of7 ?_)
        refine any_call7 (.int .i64 c9) 20 21 #[er] rfl rfl rfl rfl rfl (enters_of Tryd.func21 (by kernel_rfl) rfl) (c0 _ MM) (fun w9 hb9 => ?_)
        have MM := MM.call hb9
        simp only [Act.put]
        refine wpAny_all (rs := [4]) (by kernel_rfl) (by decide) (one_of7 ?_)
        obtain ⟨Y, hY, MM⟩ := s0 _ MM
        refine any_skip7 rfl rfl (exec_store7 rfl rfl rfl hY) ?_
        simp only [Act.put]
        refine wpAny_all (rs := [5]) (by kernel_rfl) (by decide) (one_of7 ?_)
        obtain ⟨Y, hY, MM⟩ := s1 _ MM
        refine any_skip7 rfl rfl (exec_store7 rfl rfl rfl hY) ?_
        simp only [Act.put]
        refine wpAny_all (rs := [6]) (by kernel_rfl) (by decide) (one_of7 ?_)
        refine any_val7 (.int .i64 c9) 6 rfl rfl rfl (rfl) ?_
        simp only [Act.put]
        refine wpAny_done (by kernel_rfl) ?_ _
        go_wp2_with fail
        exact bodyPost_ret (results_row2_tmp rfl _ _ (w.heap.size + 1) (w.heap.size + 1 + 1) 30 31 _ _ _ _ rfl rfl (MM.at 1 rfl) (MM.at 2 rfl) Tryd.underlying30 rfl (by rw [fcells_size]; exact sizeFd) Tryd.underlying31 rfl (by rw [acells_size]; exact size4)) rfl ⟨rfl, MM.below⟩
      · refine any_call7 (.int .i64 c9) 20 21 #[er] rfl rfl rfl rfl rfl (enters_of Tryd.func21 (by kernel_rfl) rfl) (c0 _ MM) (fun w9 hb9 => ?_)
        have MM := MM.call hb9
        simp only [Act.put]
        refine wpAny_all (rs := [1, 4]) (by kernel_rfl) (by decide) (two_of7 ?_ ?_)
        · refine any_val7 (.agg (acells .i64 4 S9)) 18 rfl rfl rfl (exec_load7 rfl rfl (b0 _ MM)) ?_
          simp only [Act.put]
          refine wpAny_all (rs := [4]) (by kernel_rfl) (by decide) (one_of7 ?_)
          obtain ⟨Y, hY, MM⟩ := s0 _ MM
          refine any_skip7 rfl rfl (exec_store7 rfl rfl rfl hY) ?_
          simp only [Act.put]
          refine wpAny_all (rs := [5]) (by kernel_rfl) (by decide) (one_of7 ?_)
          obtain ⟨Y, hY, MM⟩ := s1 _ MM
          refine any_skip7 rfl rfl (exec_store7 rfl rfl rfl hY) ?_
          simp only [Act.put]
          refine wpAny_all (rs := [6]) (by kernel_rfl) (by decide) (one_of7 ?_)
          refine any_val7 (.int .i64 c9) 6 rfl rfl rfl (rfl) ?_
          simp only [Act.put]
          refine wpAny_done (by kernel_rfl) ?_ _
          go_wp2_with fail
          exact bodyPost_ret (results_row2_tmp rfl _ _ (w.heap.size + 1) (w.heap.size + 1 + 1) 30 31 _ _ _ _ rfl rfl (MM.at 1 rfl) (MM.at 2 rfl) Tryd.underlying30 rfl (by rw [fcells_size]; exact sizeFd) Tryd.underlying31 rfl (by rw [acells_size]; exact size4)) rfl ⟨rfl, MM.below⟩
        · obtain ⟨Y, hY, MM⟩ := s0 _ MM
          refine any_skip7 rfl rfl (exec_store7 rfl rfl rfl hY) ?_
          simp only [Act.put]
          refine wpAny_all (rs := [1]) (by kernel_rfl) (by decide) (one_of7 ?_)
          refine any_val7 (.agg (acells .i64 4 S9)) 18 rfl rfl rfl (exec_load7 rfl rfl (b1 _ MM)) ?_
          simp only [Act.put]
          refine wpAny_all (rs := [5]) (by kernel_rfl) (by decide) (one_of7 ?_)
          obtain ⟨Y, hY, MM⟩ := s1 _ MM
          refine any_skip7 rfl rfl (exec_store7 rfl rfl rfl hY) ?_
          simp only [Act.put]
          refine wpAny_all (rs := [6]) (by kernel_rfl) (by decide) (one_of7 ?_)
          refine any_val7 (.int .i64 c9) 6 rfl rfl rfl (rfl) ?_
          simp only [Act.put]
          refine wpAny_done (by kernel_rfl) ?_ _
          go_wp2_with fail
          exact bodyPost_ret (results_row2_tmp rfl _ _ (w.heap.size + 1) (w.heap.size + 1 + 1) 30 31 _ _ _ _ rfl rfl (MM.at 1 rfl) (MM.at 2 rfl) Tryd.underlying30 rfl (by rw [fcells_size]; exact sizeFd) Tryd.underlying31 rfl (by rw [acells_size]; exact size4)) rfl ⟨rfl, MM.below⟩
    · refine any_val7 (.agg (acells .i64 4 S9)) 18 rfl rfl rfl (exec_load7 rfl rfl (b0 _ MM)) ?_
      simp only [Act.put]
      refine wpAny_all (rs := [0, 3]) (by kernel_rfl) (by decide) (two_of7 ?_ ?_)
      · refine any_val7 (.agg (fcells FF)) 17 rfl rfl rfl (exec_load7 rfl rfl (a0 _ MM)) ?_
        simp only [Act.put]
        refine wpAny_all (rs := [3]) (by kernel_rfl) (by decide) (one_of7 ?_)
        refine any_call7 (.int .i64 c9) 20 21 #[er] rfl rfl rfl rfl rfl (enters_of Tryd.func21 (by kernel_rfl) rfl) (c0 _ MM) (fun w9 hb9 => ?_)
        have MM := MM.call hb9
        simp only [Act.put]
        refine wpAny_all (rs := [4]) (by kernel_rfl) (by decide) (one_of7 ?_)
        obtain ⟨Y, hY, MM⟩ := s0 _ MM
        refine any_skip7 rfl rfl (exec_store7 rfl rfl rfl hY) ?_
        simp only [Act.put]
        refine wpAny_all (rs := [5]) (by kernel_rfl) (by decide) (one_of7 ?_)
        obtain ⟨Y, hY, MM⟩ := s1 _ MM
        refine any_skip7 rfl rfl (exec_store7 rfl rfl rfl hY) ?_
        simp only [Act.put]
        refine wpAny_all (rs := [6]) (by kernel_rfl) (by decide) (one_of7 ?_)
        refine any_val7 (.int .i64 c9) 6 rfl rfl rfl (rfl) ?_
        simp only [Act.put]
        refine wpAny_done (by kernel_rfl) ?_ _
        go_wp2_with fail
        exact bodyPost_ret (results_row2_tmp rfl _ _ (w.heap.size + 1) (w.heap.size + 1 + 1) 30 31 _ _ _ _ rfl rfl (MM.at 1 rfl) (MM.at 2 rfl) Tryd.underlying30 rfl (by rw [fcells_size]; exact sizeFd) Tryd.underlying31 rfl (by rw [acells_size]; exact size4)) rfl ⟨rfl, MM.below⟩
      · refine any_call7 (.int .i64 c9) 20 21 #[er] rfl rfl rfl rfl rfl (enters_of Tryd.func21 (by kernel_rfl) rfl) (c0 _ MM) (fun w9 hb9 => ?_)
        have MM := MM.call hb9
        simp only [Act.put]
        refine wpAny_all (rs := [0]) (by kernel_rfl) (by decide) (one_of7 ?_)
        refine any_val7 (.agg (fcells FF)) 17 rfl rfl rfl (exec_load7 rfl rfl (a0 _ MM)) ?_
        simp only [Act.put]
        refine wpAny_all (rs := [4]) (by kernel_rfl) (by decide) (one_of7 ?_)
        obtain ⟨Y, hY, MM⟩ := s0 _ MM
        refine any_skip7 rfl rfl (exec_store7 rfl rfl rfl hY) ?_
        simp only [Act.put]
        refine wpAny_all (rs := [5]) (by kernel_rfl) (by decide) (one_of7 ?_)
        obtain ⟨Y, hY, MM⟩ := s1 _ MM
        refine any_skip7 rfl rfl (exec_store7 rfl rfl rfl hY) ?_
        simp only [Act.put]
        refine wpAny_all (rs := [6]) (by kernel_rfl) (by decide) (one_of7 ?_)
        refine any_val7 (.int .i64 c9) 6 rfl rfl rfl (rfl) ?_
        simp only [Act.put]
        refine wpAny_done (by kernel_rfl) ?_ _
        go_wp2_with fail
        exact bodyPost_ret (results_row2_tmp rfl _ _ (w.heap.size + 1) (w.heap.size + 1 + 1) 30 31 _ _ _ _ rfl rfl (MM.at 1 rfl) (MM.at 2 rfl) Tryd.underlying30 rfl (by rw [fcells_size]; exact sizeFd) Tryd.underlying31 rfl (by rw [acells_size]; exact size4)) rfl ⟨rfl, MM.below⟩
    · refine any_call7 (.int .i64 c9) 20 21 #[er] rfl rfl rfl rfl rfl (enters_of Tryd.func21 (by kernel_rfl) rfl) (c0 _ MM) (fun w9 hb9 => ?_)
      have MM := MM.call hb9
      simp only [Act.put]
      refine wpAny_all (rs := [0, 1]) (by kernel_rfl) (by decide) (two_of7 ?_ ?_)
      · refine any_val7 (.agg (fcells FF)) 17 rfl rfl rfl (exec_load7 rfl rfl (a0 _ MM)) ?_
        simp only [Act.put]
        refine wpAny_all (rs := [1, 4]) (by kernel_rfl) (by decide) (two_of7 ?_ ?_)
        · refine any_val7 (.agg (acells .i64 4 S9)) 18 rfl rfl rfl (exec_load7 rfl rfl (b0 _ MM)) ?_
          simp only [Act.put]
          refine wpAny_all (rs := [4]) (by kernel_rfl) (by decide) (one_of7 ?_)
          obtain ⟨Y, hY, MM⟩ := s0 _ MM
          refine any_skip7 rfl rfl (exec_store7 rfl rfl rfl hY) ?_
          simp only [Act.put]
          refine wpAny_all (rs := [5]) (by kernel_rfl) (by decide) (one_of7 ?_)
          obtain ⟨Y, hY, MM⟩ := s1 _ MM
          refine any_skip7 rfl rfl (exec_store7 rfl rfl rfl hY) ?_
          simp only [Act.put]
          refine wpAny_all (rs := [6]) (by kernel_rfl) (by decide) (one_of7 ?_)
          refine any_val7 (.int .i64 c9) 6 rfl rfl rfl (rfl) ?_
          simp only [Act.put]
          refine wpAny_done (by kernel_rfl) ?_ _
          go_wp2_with fail
          exact bodyPost_ret (results_row2_tmp rfl _ _ (w.heap.size + 1) (w.heap.size + 1 + 1) 30 31 _ _ _ _ rfl rfl (MM.at 1 rfl) (MM.at 2 rfl) Tryd.underlying30 rfl (by rw [fcells_size]; exact sizeFd) Tryd.underlying31 rfl (by rw [acells_size]; exact size4)) rfl ⟨rfl, MM.below⟩
        · obtain ⟨Y, hY, MM⟩ := s0 _ MM
          refine any_skip7 rfl rfl (exec_store7 rfl rfl rfl hY) ?_
          simp only [Act.put]
          refine wpAny_all (rs := [1]) (by kernel_rfl) (by decide) (one_of7 ?_)
          refine any_val7 (.agg (acells .i64 4 S9)) 18 rfl rfl rfl (exec_load7 rfl rfl (b1 _ MM)) ?_
          simp only [Act.put]
          refine wpAny_all (rs := [5]) (by kernel_rfl) (by decide) (one_of7 ?_)
          obtain ⟨Y, hY, MM⟩ := s1 _ MM
          refine any_skip7 rfl rfl (exec_store7 rfl rfl rfl hY) ?_
          simp only [Act.put]
          refine wpAny_all (rs := [6]) (by kernel_rfl) (by decide) (one_of7 ?_)
          refine any_val7 (.int .i64 c9) 6 rfl rfl rfl (rfl) ?_
          simp only [Act.put]
          refine wpAny_done (by kernel_rfl) ?_ _
          go_wp2_with fail
          exact bodyPost_ret (results_row2_tmp rfl _ _ (w.heap.size + 1) (w.heap.size + 1 + 1) 30 31 _ _ _ _ rfl rfl (MM.at 1 rfl) (MM.at 2 rfl) Tryd.underlying30 rfl (by rw [fcells_size]; exact sizeFd) Tryd.underlying31 rfl (by rw [acells_size]; exact size4)) rfl ⟨rfl, MM.below⟩
      · refine any_val7 (.agg (acells .i64 4 S9)) 18 rfl rfl rfl (exec_load7 rfl rfl (b0 _ MM)) ?_
        simp only [Act.put]
        refine wpAny_all (rs := [0]) (by kernel_rfl) (by decide) (one_of7 ?_)
        refine any_val7 (.agg (fcells FF)) 17 rfl rfl rfl (exec_load7 rfl rfl (a0 _ MM)) ?_
        simp only [Act.put]
        refine wpAny_all (rs := [4]) (by kernel_rfl) (by decide) (one_of7 ?_)
        obtain ⟨Y, hY, MM⟩ := s0 _ MM
        refine any_skip7 rfl rfl (exec_store7 rfl rfl rfl hY) ?_
        simp only [Act.put]
        refine wpAny_all (rs := [5]) (by kernel_rfl) (by decide) (one_of7 ?_)
        obtain ⟨Y, hY, MM⟩ := s1 _ MM
        refine any_skip7 rfl rfl (exec_store7 rfl rfl rfl hY) ?_
        simp only [Act.put]
        refine wpAny_all (rs := [6]) (by kernel_rfl) (by decide) (one_of7 ?_)
        refine any_val7 (.int .i64 c9) 6 rfl rfl rfl (rfl) ?_
        simp only [Act.put]
        refine wpAny_done (by kernel_rfl) ?_ _
        go_wp2_with fail
        exact bodyPost_ret (results_row2_tmp rfl _ _ (w.heap.size + 1) (w.heap.size + 1 + 1) 30 31 _ _ _ _ rfl rfl (MM.at 1 rfl) (MM.at 2 rfl) Tryd.underlying30 rfl (by rw [fcells_size]; exact sizeFd) Tryd.underlying31 rfl (by rw [acells_size]; exact size4)) rfl ⟨rfl, MM.below⟩
end Go.Proofs.YtgadjnddllaejaaDoor
