/-
  Entries of diaries: the program's applied; ApplyEntry.
-/
import Derived.Test.YtgadjnddllaejaaDoorApplyI
import Derived.Test.YtgadjnddllaejaaDoorApplyS
import Derived.Test.YtgadjnddllaejaaDoorSoil
import Derived.Test.YtgadjnddllaejaaDoorAny
import Derived.Test.YtgadjnddllaejaaDoorCoreB
import Derived.Test.YtgadjnddllaejaaDoorCoreD
import Derived.Test.YtgadjnddllaejaaDoorCoreC
namespace Go.Proofs.YtgadjnddllaejaaDoor
open Go Go.RowKit

theorem bZeroF7 (w : World) : (Instr.build 30 #[]).run Tryd.prog w = .ok (.agg Tryd.zeroCells30) w := by kernel_rfl
/-- The field that comes out, and its error. -/
def apOut (f : Fd) (a : Nat → Int) : Fd := if apCode f a = 0 then apField f a else Fd.zero
def apErr (A : Nat → Addr) (c : Int) : Value := if c = 0 then .nilIface else errVal (A c.toNat)
theorem apOut_no {f : Fd} {a : Nat → Int} {c : Int} (h : apCode f a = c) (hc : c ≠ 0) : fcells (apOut f a) = Tryd.zeroCells30 := by
  unfold apOut; rw [if_neg (by rw [h]; exact hc), zeroFd]
theorem load_i16q (b off : Nat) (n : Int) (w : World) (c : w.cell? ⟨b, off, none⟩ = some (.int .i16 n)) : (Instr.loadAt 24 (.pointer (some ⟨b, off, none⟩))).run Tryd.prog w = .ok (.int .i16 n) w := by
  simp [Instr.loadAt, go_sem, Tryd.underlying24, c]
set_option maxRecDepth 100000 in
set_option maxHeartbeats 16000000 in
theorem applied_any (f : Fd) (hf : f.Wf) (hok : okF f = true) (a : Nat → Int) (ha : WfEn a) (A : Nat → Addr) (w : World) (S0 : Sents w A) :
    Calls Tryd.prog 29 #[.agg (fcells f), vEntry a] w fun e w' => e = .returned (.tuple #[.agg (fcells (apOut f a)), apErr A (apCode f a)]) ∧ Below w.heap.size w w' := by
  have S : Hid (Sents w A) := Lib.hid S0
  clear S0
  have HA := Lib.hid ha
  have hif := isIfaceErr
  have hz : Hid (Tryd.zeroCells30.size = 202) := Lib.hid (by rw [zeroFd, fcells_size])
  have hz1 : Hid (Tryd.zeroCells30.all (·.oneCell') = true) := Lib.hid (by rw [zeroFd]; exact fcells_one _)
  have hH : f.H ≤ 10 := by have h := hok; simp only [okF, Bool.and_eq_true] at h; exact (inB_iff.1 h.1.2).2
  obtain ⟨_, ⟨y1, y2⟩, _⟩ := ha
  cases he : entOk a with
  | false =>
    have hc : Hid (apCode f a = 2) := Lib.hid (by unfold apCode; rw [he]; rfl)
    have hout : Hid (fcells (apOut f a) = Tryd.zeroCells30) := Lib.hid (apOut_no hc.out (by decide))
    have HE := Lib.hid he
    obtain ⟨n, hn⟩ : ∃ n : Int, a 1 = n := ⟨_, rfl⟩
    have HN := Lib.hid hn
    rw [hn] at y1 y2
    clear he hn
    go_enter Tryd.func29, Tryd.ntmps29
    go_upto_region 1 with (fail)
    obtain ⟨W, hW, M⟩ := open3 w (fcells f) 30 (cEnt a) 50 Tryd.zeroCells30 30
    (try rw [hW]); clear hW
    have R : Hid (∀ W2, Mem w W2 [⟨w.heap.size, fcells f, 30⟩, ⟨w.heap.size + 1, cEnt a, 50⟩, ⟨w.heap.size + 1 + 1, Tryd.zeroCells30, 30⟩] → W2.cell? ⟨w.heap.size + 1, 1, none⟩ = some (.int .i16 n)) := Lib.hid (fun W2 M2 => by have h := (M2.at 1 rfl).cell (i := 1) (v := .int .i16 (a 1)) rfl; rw [HN.out] at h; exact h)
    have d1 := R.out _ M
    go_upto_region 3 with (first
      | (refine wpList_load_part rfl 50 _ rfl (w.heap.size + 1) 0 rfl (cEnt a) _ (M.at 1 rfl).whole Tryd.underlying50 rfl (by kernel_rfl) ?_)
      | (go_at_call 42; refine (hasTextE_any a HA.out _).mono ?_; rintro e W2 ⟨rfl, hb⟩; rw [HE.out]; have M2 := M.call hb; clear hb))
    clear d1 M
    have hv1 := (S.out.later (M2.drew).below).v2
    have N4 := M2.drew
    have N5 := N4.cells 2 0 Tryd.zeroCells30.toList rfl Tryd.zeroCells30 ((N4.at 2 rfl).over Tryd.zeroCells30 rfl)
    have hv2 := (S.out.later N5.below).v2
    have xl : ∀ W, W.cell? ⟨4, 0, none⟩ = some (errVal (A 2)) → (Instr.loadAt 54 (.pointer (some ⟨4, 0, none⟩))).run Tryd.prog W = .ok (errVal (A 2)) W := fun W c => load_errI7 _ _ _ W c
    have xs := run_storeAt_mid (P := Tryd.prog) W2.drew (w.heap.size + 1 + 1) 0 30 Tryd.zeroCells30 ((N4.at 2 rfl).there 0 _ (by rw [hz.out]; omega)) (by rw [hz.out]; exact sizeFd) hz1.out
    generalize W2.drew.setCells (w.heap.size + 1 + 1) 0 Tryd.zeroCells30.toList = W7 at N5 hv2 xs
    refine wp_region_any (by kernel_rfl) ?_
    refine wpAny_all (rs := [0, 1]) (by kernel_rfl) (by decide) (two_of7 ?_ ?_)
    · refine any_val7 (.agg Tryd.zeroCells30) 22 rfl rfl rfl (exec_build07 rfl (bZeroF7 _)) ?_
      simp only [Act.put, List.setIfInBounds_toArray, List.set_cons_zero, List.set_cons_succ]
      refine wpAny_all (rs := [1, 2]) (by kernel_rfl) (by decide) (two_of7 ?_ ?_)
      · refine any_val7 (errVal (A 2)) 23 rfl rfl rfl (exec_load7 rfl rfl (xl _ hv1)) ?_
        simp only [Act.put, List.setIfInBounds_toArray, List.set_cons_zero, List.set_cons_succ]
        refine wpAny_all (rs := [2]) (by kernel_rfl) (by decide) (one_of7 ?_)
        refine any_skip7 rfl rfl (exec_store7 rfl rfl rfl xs) ?_
        simp only [Act.put, List.setIfInBounds_toArray, List.set_cons_zero, List.set_cons_succ]
        refine wpAny_all (rs := [3]) (by kernel_rfl) (by decide) (one_of7 ?_)
        refine any_val7 (errVal (A 2)) 5 rfl rfl rfl rfl ?_
        simp only [Act.put, List.setIfInBounds_toArray, List.set_cons_zero, List.set_cons_succ]
        refine wpAny_done (by kernel_rfl) ?_ _
        go_wp2_with fail
        exact bodyPost_ret (results_row_tmp rfl _ _ (w.heap.size + 1 + 1) 30 _ _ _ rfl (N5.at 2 rfl) Tryd.underlying30 rfl (by rw [hz.out]; exact sizeFd)) rfl ⟨by rw [hout.out, hc.out]; rfl, N5.below⟩
      · refine any_skip7 rfl rfl (exec_store7 rfl rfl rfl xs) ?_
        simp only [Act.put, List.setIfInBounds_toArray, List.set_cons_zero, List.set_cons_succ]
        refine wpAny_all (rs := [1]) (by kernel_rfl) (by decide) (one_of7 ?_)
        refine any_val7 (errVal (A 2)) 23 rfl rfl rfl (exec_load7 rfl rfl (xl _ hv2)) ?_
        simp only [Act.put, List.setIfInBounds_toArray, List.set_cons_zero, List.set_cons_succ]
        refine wpAny_all (rs := [3]) (by kernel_rfl) (by decide) (one_of7 ?_)
        refine any_val7 (errVal (A 2)) 5 rfl rfl rfl rfl ?_
        simp only [Act.put, List.setIfInBounds_toArray, List.set_cons_zero, List.set_cons_succ]
        refine wpAny_done (by kernel_rfl) ?_ _
        go_wp2_with fail
        exact bodyPost_ret (results_row_tmp rfl _ _ (w.heap.size + 1 + 1) 30 _ _ _ rfl (N5.at 2 rfl) Tryd.underlying30 rfl (by rw [hz.out]; exact sizeFd)) rfl ⟨by rw [hout.out, hc.out]; rfl, N5.below⟩
    · refine any_val7 (errVal (A 2)) 23 rfl rfl rfl (exec_load7 rfl rfl (xl _ hv1)) ?_
      simp only [Act.put, List.setIfInBounds_toArray, List.set_cons_zero, List.set_cons_succ]
      refine wpAny_all (rs := [0]) (by kernel_rfl) (by decide) (one_of7 ?_)
      refine any_val7 (.agg Tryd.zeroCells30) 22 rfl rfl rfl (exec_build07 rfl (bZeroF7 _)) ?_
      simp only [Act.put, List.setIfInBounds_toArray, List.set_cons_zero, List.set_cons_succ]
      refine wpAny_all (rs := [2]) (by kernel_rfl) (by decide) (one_of7 ?_)
      refine any_skip7 rfl rfl (exec_store7 rfl rfl rfl xs) ?_
      simp only [Act.put, List.setIfInBounds_toArray, List.set_cons_zero, List.set_cons_succ]
      refine wpAny_all (rs := [3]) (by kernel_rfl) (by decide) (one_of7 ?_)
      refine any_val7 (errVal (A 2)) 5 rfl rfl rfl rfl ?_
      simp only [Act.put, List.setIfInBounds_toArray, List.set_cons_zero, List.set_cons_succ]
      refine wpAny_done (by kernel_rfl) ?_ _
      go_wp2_with fail
      exact bodyPost_ret (results_row_tmp rfl _ _ (w.heap.size + 1 + 1) 30 _ _ _ rfl (N5.at 2 rfl) Tryd.underlying30 rfl (by rw [hz.out]; exact sizeFd)) rfl ⟨by rw [hout.out, hc.out]; rfl, N5.below⟩
  | true =>
  obtain ⟨⟨e1, e2⟩, ⟨e3, e4⟩, ⟨e5, e6⟩⟩ := entOk_iff.1 he
  have HE := Lib.hid he
  obtain ⟨n, hn⟩ : ∃ n : Nat, a 1 = n := ⟨(a 1).toNat, by omega⟩
  have hn100 : n < 100 := by omega
  have HN := Lib.hid hn
  rw [hn] at y1 y2
  cases hcell : isCell f (n : Int) with
  | false =>
    have hc : Hid (apCode f a = 2) := Lib.hid (by unfold apCode; rw [he, hn, hcell]; rfl)
    have hout : Hid (fcells (apOut f a) = Tryd.zeroCells30) := Lib.hid (apOut_no hc.out (by decide))
    have HC := Lib.hid hcell
    clear he hn hcell e1 e2 e3 e4 e5 e6
    go_enter Tryd.func29, Tryd.ntmps29
    go_upto_region 1 with (fail)
    obtain ⟨W, hW, M⟩ := open3 w (fcells f) 30 (cEnt a) 50 Tryd.zeroCells30 30
    (try rw [hW]); clear hW
    have R : Hid (∀ W2, Mem w W2 [⟨w.heap.size, fcells f, 30⟩, ⟨w.heap.size + 1, cEnt a, 50⟩, ⟨w.heap.size + 1 + 1, Tryd.zeroCells30, 30⟩] → W2.cell? ⟨w.heap.size + 1, 1, none⟩ = some (.int .i16 n)) := Lib.hid (fun W2 M2 => by have h := (M2.at 1 rfl).cell (i := 1) (v := .int .i16 (a 1)) rfl; rw [HN.out] at h; exact h)
    have d1 := R.out _ M
    go_upto_region 3 with (first
      | (refine wpList_load_part rfl 50 _ rfl (w.heap.size + 1) 0 rfl (cEnt a) _ (M.at 1 rfl).whole Tryd.underlying50 rfl (by kernel_rfl) ?_)
      | (refine wpList_load_wanted rfl 30 _ rfl w.heap.size 0 rfl (fcells f) _ (M2.at 0 rfl).whole Tryd.underlying30 rfl (by rw [fcells_size]; exact sizeFd) ?_)
      | (go_at_call 42; refine (hasTextE_any a HA.out _).mono ?_; rintro e W2 ⟨rfl, hb⟩; rw [HE.out]; have M2 := M.call hb; clear hb)
      | (go_at_call 43; refine (fieldHas_any f hf hH n (by omega) (by omega) _).mono ?_; rintro e W3 ⟨rfl, hb⟩; rw [HC.out]; have M3 := M2.call hb; clear hb))
    clear d1 M M2
    have hv1 := (S.out.later (M3.drew).below).v2
    have N4 := M3.drew
    have N5 := N4.cells 2 0 Tryd.zeroCells30.toList rfl Tryd.zeroCells30 ((N4.at 2 rfl).over Tryd.zeroCells30 rfl)
    have hv2 := (S.out.later N5.below).v2
    have xl : ∀ W, W.cell? ⟨4, 0, none⟩ = some (errVal (A 2)) → (Instr.loadAt 54 (.pointer (some ⟨4, 0, none⟩))).run Tryd.prog W = .ok (errVal (A 2)) W := fun W c => load_errI7 _ _ _ W c
    have xs := run_storeAt_mid (P := Tryd.prog) W3.drew (w.heap.size + 1 + 1) 0 30 Tryd.zeroCells30 ((N4.at 2 rfl).there 0 _ (by rw [hz.out]; omega)) (by rw [hz.out]; exact sizeFd) hz1.out
    generalize W3.drew.setCells (w.heap.size + 1 + 1) 0 Tryd.zeroCells30.toList = W7 at N5 hv2 xs
    refine wp_region_any (by kernel_rfl) ?_
    refine wpAny_all (rs := [0, 1]) (by kernel_rfl) (by decide) (two_of7 ?_ ?_)
    · refine any_val7 (.agg Tryd.zeroCells30) 22 rfl rfl rfl (exec_build07 rfl (bZeroF7 _)) ?_
      simp only [Act.put, List.setIfInBounds_toArray, List.set_cons_zero, List.set_cons_succ]
      refine wpAny_all (rs := [1, 2]) (by kernel_rfl) (by decide) (two_of7 ?_ ?_)
      · refine any_val7 (errVal (A 2)) 23 rfl rfl rfl (exec_load7 rfl rfl (xl _ hv1)) ?_
        simp only [Act.put, List.setIfInBounds_toArray, List.set_cons_zero, List.set_cons_succ]
        refine wpAny_all (rs := [2]) (by kernel_rfl) (by decide) (one_of7 ?_)
        refine any_skip7 rfl rfl (exec_store7 rfl rfl rfl xs) ?_
        simp only [Act.put, List.setIfInBounds_toArray, List.set_cons_zero, List.set_cons_succ]
        refine wpAny_all (rs := [3]) (by kernel_rfl) (by decide) (one_of7 ?_)
        refine any_val7 (errVal (A 2)) 5 rfl rfl rfl rfl ?_
        simp only [Act.put, List.setIfInBounds_toArray, List.set_cons_zero, List.set_cons_succ]
        refine wpAny_done (by kernel_rfl) ?_ _
        go_wp2_with fail
        exact bodyPost_ret (results_row_tmp rfl _ _ (w.heap.size + 1 + 1) 30 _ _ _ rfl (N5.at 2 rfl) Tryd.underlying30 rfl (by rw [hz.out]; exact sizeFd)) rfl ⟨by rw [hout.out, hc.out]; rfl, N5.below⟩
      · refine any_skip7 rfl rfl (exec_store7 rfl rfl rfl xs) ?_
        simp only [Act.put, List.setIfInBounds_toArray, List.set_cons_zero, List.set_cons_succ]
        refine wpAny_all (rs := [1]) (by kernel_rfl) (by decide) (one_of7 ?_)
        refine any_val7 (errVal (A 2)) 23 rfl rfl rfl (exec_load7 rfl rfl (xl _ hv2)) ?_
        simp only [Act.put, List.setIfInBounds_toArray, List.set_cons_zero, List.set_cons_succ]
        refine wpAny_all (rs := [3]) (by kernel_rfl) (by decide) (one_of7 ?_)
        refine any_val7 (errVal (A 2)) 5 rfl rfl rfl rfl ?_
        simp only [Act.put, List.setIfInBounds_toArray, List.set_cons_zero, List.set_cons_succ]
        refine wpAny_done (by kernel_rfl) ?_ _
        go_wp2_with fail
        exact bodyPost_ret (results_row_tmp rfl _ _ (w.heap.size + 1 + 1) 30 _ _ _ rfl (N5.at 2 rfl) Tryd.underlying30 rfl (by rw [hz.out]; exact sizeFd)) rfl ⟨by rw [hout.out, hc.out]; rfl, N5.below⟩
    · refine any_val7 (errVal (A 2)) 23 rfl rfl rfl (exec_load7 rfl rfl (xl _ hv1)) ?_
      simp only [Act.put, List.setIfInBounds_toArray, List.set_cons_zero, List.set_cons_succ]
      refine wpAny_all (rs := [0]) (by kernel_rfl) (by decide) (one_of7 ?_)
      refine any_val7 (.agg Tryd.zeroCells30) 22 rfl rfl rfl (exec_build07 rfl (bZeroF7 _)) ?_
      simp only [Act.put, List.setIfInBounds_toArray, List.set_cons_zero, List.set_cons_succ]
      refine wpAny_all (rs := [2]) (by kernel_rfl) (by decide) (one_of7 ?_)
      refine any_skip7 rfl rfl (exec_store7 rfl rfl rfl xs) ?_
      simp only [Act.put, List.setIfInBounds_toArray, List.set_cons_zero, List.set_cons_succ]
      refine wpAny_all (rs := [3]) (by kernel_rfl) (by decide) (one_of7 ?_)
      refine any_val7 (errVal (A 2)) 5 rfl rfl rfl rfl ?_
      simp only [Act.put, List.setIfInBounds_toArray, List.set_cons_zero, List.set_cons_succ]
      refine wpAny_done (by kernel_rfl) ?_ _
      go_wp2_with fail
      exact bodyPost_ret (results_row_tmp rfl _ _ (w.heap.size + 1 + 1) 30 _ _ _ rfl (N5.at 2 rfl) Tryd.underlying30 rfl (by rw [hz.out]; exact sizeFd)) rfl ⟨by rw [hout.out, hc.out]; rfl, N5.below⟩
  | true =>
  have HC := Lib.hid hcell
  obtain ⟨s, hs⟩ : ∃ s, f.S n = s := ⟨_, rfl⟩
  obtain ⟨kd, hkd⟩ : ∃ x, f.K n = x := ⟨_, rfl⟩
  have hS := ok_seeds hok hn100
  rw [hs] at hS
  have HS := Lib.hid hs
  have HK := Lib.hid hkd
  obtain ⟨am, ham⟩ : ∃ x, a 2 = x := ⟨_, rfl⟩
  obtain ⟨wh, hwh⟩ : ∃ x, a 0 = x := ⟨_, rfl⟩
  have HAM := Lib.hid ham
  have HWH := Lib.hid hwh
  rw [ham] at e5 e6
  rw [hwh] at e1 e2
  have HCODE := Lib.hid (show apCode f a = if kd ≠ 0 then 4 else if wh = 0 then (if inB (s + am) 0 1000 then 0 else 3) else if s < am then 8 else 0 by
    unfold apCode; rw [he, hn, hcell, Int.toNat_natCast, hs, hkd, hwh, ham]; rfl)
  have HSEEDS := Lib.hid (show apSeeds f a = if wh = 0 then s + am else s - am by unfold apSeeds; rw [hn, Int.toNat_natCast, hs, hwh, ham])
  have HFLD : Hid (apField f a = if apCode f a = 0 then f.setS n (apSeeds f a) else f) := Lib.hid (by unfold apField; rw [hn, Int.toNat_natCast])
  obtain ⟨s1, s2⟩ := hS
  clear he hn hcell hs hkd ham hwh e3 e4
  have HOK := Lib.hid hok
  by_cases hk0 : kd = 0
  · subst hk0
    have hsoil : Hid ((isCell f (n : Int) && f.K n == 0) = true) := Lib.hid (by rw [HC.out, HK.out]; rfl)
    have hev : Hid (∃ T, evOf wh am = .iface T (.agg #[.int .i64 am]) ∧ ∀ w' : World, Sents w' A → Calls Tryd.prog 46 #[.iface T (.agg #[.int .i64 am]), .int .i64 s] w' fun e w2 => e = .returned (.tuple #[.int .i64 (sbSeeds wh s am), sbErr A wh s am]) ∧ Below w'.heap.size w' w2) := Lib.hid (by
      have hcase : wh = 0 ∨ wh = 1 ∨ wh = 2 ∨ wh = 3 := by omega
      rcases hcase with rfl | rfl | rfl | rfl
      · exact ⟨_, evOf_0 _, fun w' S' => seedsBehind0 s am (by omega) (by omega) A w' S'⟩
      · exact ⟨_, evOf_1 _, fun w' S' => seedsBehind1 s am (by omega) (by omega) A w' S'⟩
      · exact ⟨_, evOf_2 _, fun w' S' => seedsBehind2 s am (by omega) (by omega) A w' S'⟩
      · exact ⟨_, evOf_3 _, fun w' S' => seedsBehind3 s am (by omega) (by omega) A w' S'⟩)
    obtain ⟨T, hT, hSB⟩ := hev.out
    have HT := Lib.hid hT
    have HSB := Lib.hid hSB
    clear hT hSB hev
    have HEV : Hid (∀ w' : World, Calls Tryd.prog 47 #[vEntry a] w' fun e w2 => e = .returned (.iface T (.agg #[.int .i64 am])) ∧ Below w'.heap.size w' w2) := Lib.hid (fun w' => by
      have h := event_any a HA.out w'
      rw [HWH.out, HAM.out, HT.out] at h
      exact h)
    go_enter Tryd.func29, Tryd.ntmps29
    go_upto_region 1 with (fail)
    obtain ⟨W, hW, M⟩ := open3 w (fcells f) 30 (cEnt a) 50 Tryd.zeroCells30 30
    (try rw [hW]); clear hW
    have R : Hid (∀ W2, Mem w W2 [⟨w.heap.size, fcells f, 30⟩, ⟨w.heap.size + 1, cEnt a, 50⟩, ⟨w.heap.size + 1 + 1, Tryd.zeroCells30, 30⟩] → W2.cell? ⟨w.heap.size + 1, 1, none⟩ = some (.int .i16 n)) := Lib.hid (fun W2 M2 => by have h := (M2.at 1 rfl).cell (i := 1) (v := .int .i16 (a 1)) rfl; rw [HN.out] at h; exact h)
    have d1 := R.out _ M
    go_upto_region 6 with (first
      | (refine wpList_load_part rfl 50 _ rfl (w.heap.size + 1) 0 rfl (cEnt a) _ (M.at 1 rfl).whole Tryd.underlying50 rfl (by kernel_rfl) ?_)
      | (refine wpList_load_wanted rfl 30 _ rfl w.heap.size 0 rfl (fcells f) _ (M2.at 0 rfl).whole Tryd.underlying30 rfl (by rw [fcells_size]; exact sizeFd) ?_)
      | (refine wpList_load_part rfl 30 _ rfl w.heap.size 0 rfl (fcells f) _ (M3.at 0 rfl).whole Tryd.underlying30 rfl (by rw [fcells_size]; exact sizeFd) ?_)
      | (go_at_call 42; refine (hasTextE_any a HA.out _).mono ?_; rintro e W2 ⟨rfl, hb⟩; rw [HE.out]; have M2 := M.call hb; clear hb)
      | (go_at_call 43; refine (fieldHas_any f hf hH n (by omega) (by omega) _).mono ?_; rintro e W3 ⟨rfl, hb⟩; rw [HC.out]; have M3 := M2.call hb; clear hb)
      | (go_at_call 44; refine (isSoil7 f hf HOK.out n hn100 _).mono ?_; rintro e W4 ⟨rfl, hb⟩; rw [hsoil.out]; have M4 := M3.call hb; clear hb))
    clear d1 M M2 M3
    go_upto_region 7 with (first
      | (refine wpList_load_part rfl 30 _ rfl w.heap.size 0 rfl (fcells f) _ (M4.at 0 rfl).whole Tryd.underlying30 rfl (by rw [fcells_size]; exact sizeFd) ?_)
      | (go_at_call 45; refine (spotAt_any f n hn100 _).mono ?_; rintro e W5 ⟨rfl, hb⟩; rw [HK.out, HS.out]; have M5 := M4.call hb; clear hb))
    have M6 : Hid (Mem w (W5.alloc (.cells #[.int .u8 0, .int .i16 s] 94)) [⟨w.heap.size, fcells f, 30⟩, ⟨w.heap.size + 1, cEnt a, 50⟩, ⟨w.heap.size + 1 + 1, Tryd.zeroCells30, 30⟩, ⟨W5.heap.size, #[.int .u8 0, .int .i16 s], 94⟩]) := Lib.hid (M5.alloc _ _)
    obtain ⟨sb, hsb⟩ : ∃ sb, sb = W5.heap.size := ⟨_, rfl⟩
    rw [← hsb] at M6 ⊢
    generalize W5.alloc _ = W6 at M6 ⊢
    clear M4 M5 hsb
    have hws : IntKind.i64.wrap s = s := IntWalk.i64_in _ (by omega)
    have hcs : (apCode f a = 0 ∧ sbErr A wh s am = .nilIface ∧ sbSeeds wh s am = apSeeds f a ∧ 0 ≤ sbSeeds wh s am ∧ sbSeeds wh s am ≤ 1000) ∨ (∃ k : Nat, (k = 3 ∨ k = 8) ∧ apCode f a = k ∧ sbErr A wh s am = errVal (A k)) := by
      rw [HCODE.out, HSEEDS.out]
      unfold sbErr sbSeeds
      rw [if_neg (by simp)]
      by_cases h0 : wh = 0
      · simp only [if_pos h0]
        cases hq : inB (s + am) 0 1000 with
        | true => have := inB_iff.1 hq; exact .inl ⟨by trivial, by trivial, by trivial, this.1, this.2⟩
        | false => exact .inr ⟨3, .inl rfl, rfl, rfl⟩
      · simp only [if_neg h0]
        by_cases hl : s < am
        · simp only [if_pos hl]; exact .inr ⟨8, .inr rfl, rfl, rfl⟩
        · simp only [if_neg hl]; exact .inl ⟨by trivial, by trivial, by trivial, by omega, by omega⟩
    obtain ⟨sv, hsv⟩ : ∃ x, sbSeeds wh s am = x := ⟨_, rfl⟩
    obtain ⟨se, hse⟩ : ∃ x, sbErr A wh s am = x := ⟨_, rfl⟩
    rw [hsv, hse] at hcs
    have HSV := Lib.hid hsv
    have HSE := Lib.hid hse
    have HCS := Lib.hid hcs
    clear hsv hse hcs
    refine wp_region_rel (DL [dV (.agg (cEnt a)), dV (.iface T (.agg #[.int .i64 am])), dV (.pointer (some ⟨sb, 1, none⟩)), dV (.int .i16 s), dV (.int .i64 s), dV (.tuple #[.int .i64 sv, se]), dV (.tuple #[.int .i64 sv, se]), dV (.int .i64 sv), dV (se), dV (.int .i64 sv), dV (se)]) (fun w' => Mem w w' [⟨w.heap.size, fcells f, 30⟩, ⟨w.heap.size + 1, cEnt a, 50⟩, ⟨w.heap.size + 1 + 1, Tryd.zeroCells30, 30⟩, ⟨sb, #[.int .u8 0, .int .i16 s], 94⟩]) (by kernel_rfl) (by kernel_rfl) grows_mem
      (stays_DL (fun d hd => by
        simp only [List.mem_cons, List.mem_nil_iff, or_false] at hd
        rcases hd with rfl | rfl | rfl | rfl | rfl | rfl | rfl | rfl | rfl | rfl | rfl <;> exact stay_V)) M6.out.drew ?_
    refine rel_load 50 _ rfl (w.heap.size + 1) (0) rfl (cEnt a) _ rfl rfl (fun w' hw' => (hw'.at 1 rfl).whole) Tryd.underlying50 rfl (by kernel_rfl) (fun _ => ?_)
    simp only [Act.put, List.setIfInBounds_toArray, List.set_cons_zero, List.set_cons_succ]
    refine rel_call (.iface T (.agg #[.int .i64 am])) 47 #[vEntry a] rfl rfl rfl rfl (enters_of Tryd.func47 (by kernel_rfl) rfl) (fun w' _ => HEV.out w') (fun _ => ?_)
    simp only [Act.put, List.setIfInBounds_toArray, List.set_cons_zero, List.set_cons_succ]
    refine rel_val (.pointer (some ⟨sb, 1, none⟩)) rfl rfl (fun w' _ => by simp [execOp, Act.eval, go_sem]) (fun _ => ?_)
    simp only [Act.put, List.setIfInBounds_toArray, List.set_cons_zero, List.set_cons_succ]
    refine rel_cell 24 _ rfl (sb) (1) rfl (.int .i16 s) rfl rfl (fun w' c => load_i16q _ _ _ w' c) (fun w' hw' => (hw'.at 3 rfl).cell (i := 1) rfl) (fun _ => ?_)
    simp only [Act.put, List.setIfInBounds_toArray, List.set_cons_zero, List.set_cons_succ]
    refine rel_val (.int .i64 s) rfl rfl (fun w' _ => by simp [execOp, Act.eval, go_sem, hws]) (fun _ => ?_)
    simp only [Act.put, List.setIfInBounds_toArray, List.set_cons_zero, List.set_cons_succ]
    refine rel_call (.tuple #[.int .i64 sv, se]) 46 #[.iface T (.agg #[.int .i64 am]), .int .i64 s] rfl rfl rfl rfl (enters_of Tryd.func46 (by kernel_rfl) rfl) (fun w' hw' => by have h := HSB.out w' (S.out.later hw'.below); rw [HSV.out, HSE.out] at h; exact h) (fun _ => ?_)
    simp only [Act.put, List.setIfInBounds_toArray, List.set_cons_zero, List.set_cons_succ]
    refine rel_val _ rfl rfl (fun _ _ => rfl) (fun _ => ?_)
    simp only [Act.put, List.setIfInBounds_toArray, List.set_cons_zero, List.set_cons_succ]
    refine rel_val _ rfl rfl (fun _ _ => rfl) (fun _ => ?_)
    simp only [Act.put, List.setIfInBounds_toArray, List.set_cons_zero, List.set_cons_succ]
    refine rel_val _ rfl rfl (fun _ _ => rfl) (fun _ => ?_)
    simp only [Act.put, List.setIfInBounds_toArray, List.set_cons_zero, List.set_cons_succ]
    refine rel_val _ rfl rfl (fun _ _ => rfl) (fun _ => ?_)
    simp only [Act.put, List.setIfInBounds_toArray, List.set_cons_zero, List.set_cons_succ]
    refine rel_val _ rfl rfl (fun _ _ => rfl) (fun _ => ?_)
    simp only [Act.put, List.setIfInBounds_toArray, List.set_cons_zero, List.set_cons_succ]
    refine rel_nil (fun W7 inv => ?_)
    have M7 := inv.cls
    clear inv M6
    rcases HCS.out with ⟨hc0, rfl, hsa, hv0, hv1⟩ | ⟨k, hk, hc0, rfl⟩
    · have hc : Hid (apCode f a = 0) := Lib.hid hc0
      have hout : Hid (fcells (apOut f a) = fcells (turned f n 0 sv)) := Lib.hid (by
        unfold apOut
        rw [if_pos hc0, HFLD.out, if_pos hc0, ← hsa, turned_S0, HK.out])
      clear hc0 hsa
      have d1 := (M7.at 3 rfl).cell (i := 1) (v := .int .i16 s) rfl
      have f1 := (M7.at 3 rfl).free 1
      have h16 : IntKind.i16.wrap sv = sv := IntWalk.i16_in _ (by omega)
      have M8 := Lib.hid (M7.set 3 1 (.int .i16 sv) rfl #[.int .u8 0, .int .i16 sv] rfl)
      go_upto_region 11 with (fail)
      generalize World.setCell _ _ _ = W8 at M8 ⊢
      clear d1 f1 M7
      go_wp2_with (first
        | (refine wpList_load_part rfl 30 _ rfl w.heap.size 0 rfl (fcells f) _ (M8.out.at 0 rfl).whole Tryd.underlying30 rfl (by rw [fcells_size]; exact sizeFd) ?_)
        | (refine wpList_load_part rfl 94 _ rfl sb 0 rfl #[.int .u8 0, .int .i16 sv] _ (M8.out.at 3 rfl).whole Tryd.underlying94 rfl (by kernel_rfl) ?_)
        | (go_at_call 48; refine (withSpot_any f n hn100 0 sv _).mono ?_; rintro e W9 ⟨rfl, hb⟩; have M9 := M8.out.call hb; clear hb)
        | (refine wpList_store_row rfl 30 _ _ rfl (w.heap.size + 1 + 1) (fcells (turned f n 0 sv)) rfl rfl 30 _ (M9.at 2 rfl) (by rw [fcells_size]; exact sizeFd) (by rw [hz.out, fcells_size]) (fcells_one _) ?_))
      have M10 := M9.row 2 rfl (fcells (turned f n 0 sv))
      exact bodyPost_ret (results_row_tmp rfl _ _ (w.heap.size + 1 + 1) 30 _ _ _ rfl (M10.at 2 rfl) Tryd.underlying30 rfl (by rw [fcells_size]; exact sizeFd)) rfl ⟨by rw [hout.out, hc.out]; rfl, M10.below⟩
    · have hc : Hid (apCode f a = k) := Lib.hid hc0
      have hout : Hid (fcells (apOut f a) = Tryd.zeroCells30) := Lib.hid (apOut_no hc.out (by omega))
      have herr : Hid (apErr A k = errVal (A k)) := Lib.hid (by unfold apErr; rw [if_neg (by omega), Int.toNat_natCast])
      clear hc0
      go_wp2_with (refine wpList_store_row rfl 30 _ _ rfl (w.heap.size + 1 + 1) Tryd.zeroCells30 rfl rfl 30 _ (M7.at 2 rfl) (by rw [hz.out]; exact sizeFd) (by rw [hz.out]) hz1.out ?_)
      have M10 := M7.row 2 rfl Tryd.zeroCells30
      exact bodyPost_ret (results_row_tmp rfl _ _ (w.heap.size + 1 + 1) 30 _ _ _ rfl (M10.at 2 rfl) Tryd.underlying30 rfl (by rw [hz.out]; exact sizeFd)) rfl ⟨by rw [hout.out, hc.out, herr.out]; rfl, M10.below⟩
  · have hsoil : Hid ((isCell f (n : Int) && f.K n == 0) = false) := Lib.hid (by rw [HC.out, HK.out]; simpa using hk0)
    have hc : Hid (apCode f a = 4) := Lib.hid (by rw [HCODE.out, if_pos hk0])
    have hout : Hid (fcells (apOut f a) = Tryd.zeroCells30) := Lib.hid (apOut_no hc.out (by decide))
    go_enter Tryd.func29, Tryd.ntmps29
    go_upto_region 1 with (fail)
    obtain ⟨W, hW, M⟩ := open3 w (fcells f) 30 (cEnt a) 50 Tryd.zeroCells30 30
    (try rw [hW]); clear hW
    have R : Hid (∀ W2, Mem w W2 [⟨w.heap.size, fcells f, 30⟩, ⟨w.heap.size + 1, cEnt a, 50⟩, ⟨w.heap.size + 1 + 1, Tryd.zeroCells30, 30⟩] → W2.cell? ⟨w.heap.size + 1, 1, none⟩ = some (.int .i16 n)) := Lib.hid (fun W2 M2 => by have h := (M2.at 1 rfl).cell (i := 1) (v := .int .i16 (a 1)) rfl; rw [HN.out] at h; exact h)
    have d1 := R.out _ M
    go_upto_region 5 with (first
      | (refine wpList_load_part rfl 50 _ rfl (w.heap.size + 1) 0 rfl (cEnt a) _ (M.at 1 rfl).whole Tryd.underlying50 rfl (by kernel_rfl) ?_)
      | (refine wpList_load_wanted rfl 30 _ rfl w.heap.size 0 rfl (fcells f) _ (M2.at 0 rfl).whole Tryd.underlying30 rfl (by rw [fcells_size]; exact sizeFd) ?_)
      | (refine wpList_load_part rfl 30 _ rfl w.heap.size 0 rfl (fcells f) _ (M3.at 0 rfl).whole Tryd.underlying30 rfl (by rw [fcells_size]; exact sizeFd) ?_)
      | (go_at_call 42; refine (hasTextE_any a HA.out _).mono ?_; rintro e W2 ⟨rfl, hb⟩; rw [HE.out]; have M2 := M.call hb; clear hb)
      | (go_at_call 43; refine (fieldHas_any f hf hH n (by omega) (by omega) _).mono ?_; rintro e W3 ⟨rfl, hb⟩; rw [HC.out]; have M3 := M2.call hb; clear hb)
      | (go_at_call 44; refine (isSoil7 f hf HOK.out n hn100 _).mono ?_; rintro e W4 ⟨rfl, hb⟩; rw [hsoil.out]; have M4 := M3.call hb; clear hb))
    clear d1 M M2 M3
    have hv1 := (S.out.later (M4.drew).below).v4
    have N4 := M4.drew
    have N5 := N4.cells 2 0 Tryd.zeroCells30.toList rfl Tryd.zeroCells30 ((N4.at 2 rfl).over Tryd.zeroCells30 rfl)
    have hv2 := (S.out.later N5.below).v4
    have xl : ∀ W, W.cell? ⟨5, 0, none⟩ = some (errVal (A 4)) → (Instr.loadAt 54 (.pointer (some ⟨5, 0, none⟩))).run Tryd.prog W = .ok (errVal (A 4)) W := fun W c => load_errI7 _ _ _ W c
    have xs := run_storeAt_mid (P := Tryd.prog) W4.drew (w.heap.size + 1 + 1) 0 30 Tryd.zeroCells30 ((N4.at 2 rfl).there 0 _ (by rw [hz.out]; omega)) (by rw [hz.out]; exact sizeFd) hz1.out
    generalize W4.drew.setCells (w.heap.size + 1 + 1) 0 Tryd.zeroCells30.toList = W7 at N5 hv2 xs
    refine wp_region_any (by kernel_rfl) ?_
    refine wpAny_all (rs := [0, 1]) (by kernel_rfl) (by decide) (two_of7 ?_ ?_)
    · refine any_val7 (.agg Tryd.zeroCells30) 28 rfl rfl rfl (exec_build07 rfl (bZeroF7 _)) ?_
      simp only [Act.put, List.setIfInBounds_toArray, List.set_cons_zero, List.set_cons_succ]
      refine wpAny_all (rs := [1, 2]) (by kernel_rfl) (by decide) (two_of7 ?_ ?_)
      · refine any_val7 (errVal (A 4)) 29 rfl rfl rfl (exec_load7 rfl rfl (xl _ hv1)) ?_
        simp only [Act.put, List.setIfInBounds_toArray, List.set_cons_zero, List.set_cons_succ]
        refine wpAny_all (rs := [2]) (by kernel_rfl) (by decide) (one_of7 ?_)
        refine any_skip7 rfl rfl (exec_store7 rfl rfl rfl xs) ?_
        simp only [Act.put, List.setIfInBounds_toArray, List.set_cons_zero, List.set_cons_succ]
        refine wpAny_all (rs := [3]) (by kernel_rfl) (by decide) (one_of7 ?_)
        refine any_val7 (errVal (A 4)) 5 rfl rfl rfl rfl ?_
        simp only [Act.put, List.setIfInBounds_toArray, List.set_cons_zero, List.set_cons_succ]
        refine wpAny_done (by kernel_rfl) ?_ _
        go_wp2_with fail
        exact bodyPost_ret (results_row_tmp rfl _ _ (w.heap.size + 1 + 1) 30 _ _ _ rfl (N5.at 2 rfl) Tryd.underlying30 rfl (by rw [hz.out]; exact sizeFd)) rfl ⟨by rw [hout.out, hc.out]; rfl, N5.below⟩
      · refine any_skip7 rfl rfl (exec_store7 rfl rfl rfl xs) ?_
        simp only [Act.put, List.setIfInBounds_toArray, List.set_cons_zero, List.set_cons_succ]
        refine wpAny_all (rs := [1]) (by kernel_rfl) (by decide) (one_of7 ?_)
        refine any_val7 (errVal (A 4)) 29 rfl rfl rfl (exec_load7 rfl rfl (xl _ hv2)) ?_
        simp only [Act.put, List.setIfInBounds_toArray, List.set_cons_zero, List.set_cons_succ]
        refine wpAny_all (rs := [3]) (by kernel_rfl) (by decide) (one_of7 ?_)
        refine any_val7 (errVal (A 4)) 5 rfl rfl rfl rfl ?_
        simp only [Act.put, List.setIfInBounds_toArray, List.set_cons_zero, List.set_cons_succ]
        refine wpAny_done (by kernel_rfl) ?_ _
        go_wp2_with fail
        exact bodyPost_ret (results_row_tmp rfl _ _ (w.heap.size + 1 + 1) 30 _ _ _ rfl (N5.at 2 rfl) Tryd.underlying30 rfl (by rw [hz.out]; exact sizeFd)) rfl ⟨by rw [hout.out, hc.out]; rfl, N5.below⟩
    · refine any_val7 (errVal (A 4)) 29 rfl rfl rfl (exec_load7 rfl rfl (xl _ hv1)) ?_
      simp only [Act.put, List.setIfInBounds_toArray, List.set_cons_zero, List.set_cons_succ]
      refine wpAny_all (rs := [0]) (by kernel_rfl) (by decide) (one_of7 ?_)
      refine any_val7 (.agg Tryd.zeroCells30) 28 rfl rfl rfl (exec_build07 rfl (bZeroF7 _)) ?_
      simp only [Act.put, List.setIfInBounds_toArray, List.set_cons_zero, List.set_cons_succ]
      refine wpAny_all (rs := [2]) (by kernel_rfl) (by decide) (one_of7 ?_)
      refine any_skip7 rfl rfl (exec_store7 rfl rfl rfl xs) ?_
      simp only [Act.put, List.setIfInBounds_toArray, List.set_cons_zero, List.set_cons_succ]
      refine wpAny_all (rs := [3]) (by kernel_rfl) (by decide) (one_of7 ?_)
      refine any_val7 (errVal (A 4)) 5 rfl rfl rfl rfl ?_
      simp only [Act.put, List.setIfInBounds_toArray, List.set_cons_zero, List.set_cons_succ]
      refine wpAny_done (by kernel_rfl) ?_ _
      go_wp2_with fail
      exact bodyPost_ret (results_row_tmp rfl _ _ (w.heap.size + 1 + 1) 30 _ _ _ rfl (N5.at 2 rfl) Tryd.underlying30 rfl (by rw [hz.out]; exact sizeFd)) rfl ⟨by rw [hout.out, hc.out]; rfl, N5.below⟩
end Go.Proofs.YtgadjnddllaejaaDoor
