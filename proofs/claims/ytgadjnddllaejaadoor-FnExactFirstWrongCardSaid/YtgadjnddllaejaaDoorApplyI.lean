/-
  Entries of diaries in the program: events, what they leave.
-/
import Derived.Test.YtgadjnddllaejaaDoorApply
import Derived.Test.YtgadjnddllaejaaDoorCoreC
import Derived.Test.YtgadjnddllaejaaDoorSpotW
import Derived.Deep.QuietTactic
import Derived.BigRegion
namespace Go.Proofs.YtgadjnddllaejaaDoor
open Go Go.RowKit

theorem isNumber7 (n : Int) (w : World) : Calls Tryd.prog 56 #[.int .i64 n] w fun e w' => e = .returned (.bool (inB n 0 99)) ∧ w = w' := by
  by_cases h1 : 0 ≤ n
  · by_cases h2 : n ≤ 99
    · rw [inB_iff.2 ⟨h1, h2⟩]
      have h3 : n < 99 + 1 := by omega
      simp only [Int.reduceAdd] at h3
      go_enter Tryd.func56, Tryd.ntmps56
      go_wp2_with fail
      go_ret
      exact ⟨rfl, rfl⟩
    · rw [inB_false (.inr (by omega))]
      have h3 : ¬ n < 99 + 1 := by omega
      simp only [Int.reduceAdd] at h3
      go_enter Tryd.func56, Tryd.ntmps56
      go_wp2_with fail
      go_ret
      exact ⟨rfl, rfl⟩
  · rw [inB_false (.inl (by omega))]
    go_enter Tryd.func56, Tryd.ntmps56
    go_wp2_with fail
    go_ret
    exact ⟨rfl, rfl⟩
theorem isAmount7 (n : Int) (w : World) : Calls Tryd.prog 57 #[.int .i64 n] w fun e w' => e = .returned (.bool (inB n 1 1000)) ∧ w = w' := by
  by_cases h1 : 1 ≤ n
  · by_cases h2 : n ≤ 1000
    · rw [inB_iff.2 ⟨h1, h2⟩]
      have h3 : n < 1000 + 1 := by omega
      simp only [Int.reduceAdd] at h3
      go_enter Tryd.func57, Tryd.ntmps57
      go_wp2_with fail
      go_ret
      exact ⟨rfl, rfl⟩
    · rw [inB_false (.inr (by omega))]
      have h3 : ¬ n < 1000 + 1 := by omega
      simp only [Int.reduceAdd] at h3
      go_enter Tryd.func57, Tryd.ntmps57
      go_wp2_with fail
      go_ret
      exact ⟨rfl, rfl⟩
  · rw [inB_false (.inl (by omega))]
    go_enter Tryd.func57, Tryd.ntmps57
    go_wp2_with fail
    go_ret
    exact ⟨rfl, rfl⟩
/-- The event of an entry, by what it tells. -/
def evOf (wh am : Int) : Value := if wh = 0 then .iface 125 (.agg #[.int .i64 am]) else if wh = 1 then .iface 127 (.agg #[.int .i64 am]) else if wh = 2 then .iface 128 (.agg #[.int .i64 am]) else if wh = 3 then .iface 129 (.agg #[.int .i64 am]) else .nilIface
theorem evOf_0 (am : Int) : evOf 0 am = .iface 125 (.agg #[.int .i64 am]) := rfl
theorem evOf_1 (am : Int) : evOf 1 am = .iface 127 (.agg #[.int .i64 am]) := rfl
theorem evOf_2 (am : Int) : evOf 2 am = .iface 128 (.agg #[.int .i64 am]) := rfl
theorem evOf_3 (am : Int) : evOf 3 am = .iface 129 (.agg #[.int .i64 am]) := rfl
theorem evOf_no {wh am : Int} (h : inB wh 0 3 = false) : evOf wh am = .nilIface := by
  have h0 : ¬ wh = 0 := fun e => by subst e; cases h
  have h1 : ¬ wh = 1 := fun e => by subst e; cases h
  have h2 : ¬ wh = 2 := fun e => by subst e; cases h
  have h3 : ¬ wh = 3 := fun e => by subst e; cases h
  unfold evOf; rw [if_neg h0, if_neg h1, if_neg h2, if_neg h3]
set_option maxHeartbeats 1000000 in
theorem event_any (a : Nat → Int) (ha : WfEn a) (w : World) : Calls Tryd.prog 47 #[vEntry a] w fun e w' => e = .returned (evOf (a 0) (a 2)) ∧ Below w.heap.size w w' := by
  obtain ⟨⟨x1, x2⟩, _, ⟨u1, u2⟩⟩ := ha
  obtain ⟨wh, hwh⟩ : ∃ x, a 0 = x := ⟨_, rfl⟩
  have HWH := Lib.hid hwh
  rw [hwh] at x1 x2 ⊢
  clear hwh
  have hcase : wh = 0 ∨ wh = 1 ∨ wh = 2 ∨ wh = 3 ∨ (¬ wh = 0 ∧ ¬ wh = 1 ∧ ¬ wh = 2 ∧ ¬ wh = 3) := by omega
  rcases hcase with rfl | rfl | rfl | rfl | ⟨n0, n1, n2, n3⟩
  · rw [evOf_0]
    go_enter Tryd.func47, Tryd.ntmps47
    go_upto_region 1 with (fail)
    obtain ⟨W, hW, M⟩ := open1 w (cEnt a) 50
    (try rw [hW]); clear hW
    have c0 : W.cell? ⟨w.heap.size, 0, none⟩ = some (.int .i8 0) := by have h := (M.at 0 rfl).cell (i := 0) (v := .int .i8 (a 0)) rfl; rw [HWH.out] at h; exact h
    have c2 : W.cell? ⟨w.heap.size, 2, none⟩ = some (.int .i16 (a 2)) := (M.at 0 rfl).cell (i := 2) rfl
    go_wp2_with fail
    go_ret
    exact ⟨rfl, M.below⟩
  · rw [evOf_1]
    go_enter Tryd.func47, Tryd.ntmps47
    go_upto_region 1 with (fail)
    obtain ⟨W, hW, M⟩ := open1 w (cEnt a) 50
    (try rw [hW]); clear hW
    have c0 : W.cell? ⟨w.heap.size, 0, none⟩ = some (.int .i8 1) := by have h := (M.at 0 rfl).cell (i := 0) (v := .int .i8 (a 0)) rfl; rw [HWH.out] at h; exact h
    have c2 : W.cell? ⟨w.heap.size, 2, none⟩ = some (.int .i16 (a 2)) := (M.at 0 rfl).cell (i := 2) rfl
    go_wp2_with fail
    go_ret
    exact ⟨rfl, M.below⟩
  · rw [evOf_2]
    go_enter Tryd.func47, Tryd.ntmps47
    go_upto_region 1 with (fail)
    obtain ⟨W, hW, M⟩ := open1 w (cEnt a) 50
    (try rw [hW]); clear hW
    have c0 : W.cell? ⟨w.heap.size, 0, none⟩ = some (.int .i8 2) := by have h := (M.at 0 rfl).cell (i := 0) (v := .int .i8 (a 0)) rfl; rw [HWH.out] at h; exact h
    have c2 : W.cell? ⟨w.heap.size, 2, none⟩ = some (.int .i16 (a 2)) := (M.at 0 rfl).cell (i := 2) rfl
    go_wp2_with fail
    go_ret
    exact ⟨rfl, M.below⟩
  · rw [evOf_3]
    go_enter Tryd.func47, Tryd.ntmps47
    go_upto_region 1 with (fail)
    obtain ⟨W, hW, M⟩ := open1 w (cEnt a) 50
    (try rw [hW]); clear hW
    have c0 : W.cell? ⟨w.heap.size, 0, none⟩ = some (.int .i8 3) := by have h := (M.at 0 rfl).cell (i := 0) (v := .int .i8 (a 0)) rfl; rw [HWH.out] at h; exact h
    have c2 : W.cell? ⟨w.heap.size, 2, none⟩ = some (.int .i16 (a 2)) := (M.at 0 rfl).cell (i := 2) rfl
    go_wp2_with fail
    go_ret
    exact ⟨rfl, M.below⟩
  · have hno : evOf wh (a 2) = .nilIface := by unfold evOf; rw [if_neg n0, if_neg n1, if_neg n2, if_neg n3]
    rw [hno]
    go_enter Tryd.func47, Tryd.ntmps47
    go_upto_region 1 with (fail)
    obtain ⟨W, hW, M⟩ := open1 w (cEnt a) 50
    (try rw [hW]); clear hW
    have c0 : W.cell? ⟨w.heap.size, 0, none⟩ = some (.int .i8 wh) := by have h := (M.at 0 rfl).cell (i := 0) (v := .int .i8 (a 0)) rfl; rw [HWH.out] at h; exact h
    have c2 : W.cell? ⟨w.heap.size, 2, none⟩ = some (.int .i16 (a 2)) := (M.at 0 rfl).cell (i := 2) rfl
    go_wp2_with fail
    go_ret
    exact ⟨rfl, M.below⟩
set_option maxHeartbeats 1000000 in
theorem hasTextE_any (a : Nat → Int) (ha : WfEn a) (w : World) : Calls Tryd.prog 42 #[vEntry a] w fun e w' => e = .returned (.bool (entOk a)) ∧ Below w.heap.size w w' := by
  have HA := Lib.hid ha
  obtain ⟨⟨x1, x2⟩, ⟨y1, y2⟩, ⟨u1, u2⟩⟩ := ha
  unfold entOk
  obtain ⟨q1, h1⟩ : ∃ x, inB (a 0) 0 3 = x := ⟨_, rfl⟩
  obtain ⟨q2, h2⟩ : ∃ x, inB (a 1) 0 99 = x := ⟨_, rfl⟩
  obtain ⟨q3, h3⟩ : ∃ x, inB (a 2) 1 1000 = x := ⟨_, rfl⟩
  rw [h1, h2, h3]
  have H1 := Lib.hid h1
  have H2 := Lib.hid h2
  have H3 := Lib.hid h3
  clear h1 h2 h3
  cases q1 with
  | false =>
    have HEV : Hid (evOf (a 0) (a 2) = .nilIface) := Lib.hid (evOf_no H1.out)
    go_enter Tryd.func42, Tryd.ntmps42
    go_upto_region 1 with (fail)
    obtain ⟨W, hW, M⟩ := open1 w (cEnt a) 50
    (try rw [hW]); clear hW
    go_wp2_with (first
      | (refine wpList_load_part rfl 50 _ rfl w.heap.size 0 rfl (cEnt a) _ (M.at 0 rfl).whole Tryd.underlying50 rfl (by kernel_rfl) ?_)
      | (go_at_call 47; refine (event_any a HA.out _).mono ?_; rintro e w2 ⟨rfl, hb⟩; rw [HEV.out]; have M2 := M.call hb))
    go_ret
    exact ⟨rfl, M2.below⟩
  | true =>
    have hr := inB_iff.1 H1.out
    obtain ⟨T, HEV⟩ : ∃ T, Hid (evOf (a 0) (a 2) = .iface T (.agg #[.int .i64 (a 2)])) := by
      have hcase : a 0 = 0 ∨ a 0 = 1 ∨ a 0 = 2 ∨ a 0 = 3 := by omega
      rcases hcase with h | h | h | h
      · exact ⟨_, Lib.hid (by rw [h]; exact evOf_0 _)⟩
      · exact ⟨_, Lib.hid (by rw [h]; exact evOf_1 _)⟩
      · exact ⟨_, Lib.hid (by rw [h]; exact evOf_2 _)⟩
      · exact ⟨_, Lib.hid (by rw [h]; exact evOf_3 _)⟩
    cases q2
    all_goals
      go_enter Tryd.func42, Tryd.ntmps42
      go_upto_region 1 with (fail)
      obtain ⟨W, hW, M⟩ := open1 w (cEnt a) 50
      (try rw [hW]); clear hW
      have R : Hid (∀ W2, Mem w W2 [⟨w.heap.size, cEnt a, 50⟩] → W2.cell? ⟨w.heap.size, 1, none⟩ = some (.int .i16 (a 1)) ∧ W2.cell? ⟨w.heap.size, 2, none⟩ = some (.int .i16 (a 2))) := Lib.hid (fun W2 M2 => ⟨(M2.at 0 rfl).cell (i := 1) rfl, (M2.at 0 rfl).cell (i := 2) rfl⟩)
      go_wp2_with (first
        | (refine wpList_load_part rfl 50 _ rfl w.heap.size 0 rfl (cEnt a) _ (M.at 0 rfl).whole Tryd.underlying50 rfl (by kernel_rfl) ?_)
        | (go_at_call 47; refine (event_any a HA.out _).mono ?_; rintro e w2 ⟨rfl, hb⟩; rw [HEV.out]; have M2 := M.call hb; obtain ⟨d1, d2⟩ := R.out _ M2)
        | (go_at_call 56; refine (isNumber7 _ _).mono ?_; rintro e w' ⟨rfl, rfl⟩; rw [H2.out])
        | (go_at_call 57; refine (isAmount7 _ _).mono ?_; rintro e w' ⟨rfl, rfl⟩; rw [H3.out]))
      go_ret
      exact ⟨rfl, M2.below⟩
theorem seedsH_any (v : Int) (w : World) : Calls Tryd.prog 98 #[.int .i64 v] w fun e w' => e = .returned (.int .i64 v) ∧ w = w' := by
  go_enter Tryd.func98, Tryd.ntmps98
  go_wp2_with fail
  go_ret
  exact ⟨rfl, rfl⟩
theorem methEv0 (v : Int) (w : World) : (Go.method 268 125 (.agg #[.int .i64 v]) "loop.example/g01338/impl.seeds").run Tryd.prog w = .ok (98, .int .i64 v) w := by kernel_rfl
theorem asEv0 (v : Int) (w : World) : (Instr.typeAssert (.iface 125 (.agg #[.int .i64 v])) 99 125 true).run Tryd.prog w = .ok (.tuple #[.agg #[.int .i64 v], .bool true]) w := by kernel_rfl
theorem methEv1 (v : Int) (w : World) : (Go.method 268 127 (.agg #[.int .i64 v]) "loop.example/g01338/impl.seeds").run Tryd.prog w = .ok (98, .int .i64 v) w := by kernel_rfl
theorem asEv1 (v : Int) (w : World) : (Instr.typeAssert (.iface 127 (.agg #[.int .i64 v])) 99 125 true).run Tryd.prog w = .ok (.tuple #[.agg #[.int .i64 0], .bool false]) w := by kernel_rfl
theorem methEv2 (v : Int) (w : World) : (Go.method 268 128 (.agg #[.int .i64 v]) "loop.example/g01338/impl.seeds").run Tryd.prog w = .ok (98, .int .i64 v) w := by kernel_rfl
theorem asEv2 (v : Int) (w : World) : (Instr.typeAssert (.iface 128 (.agg #[.int .i64 v])) 99 125 true).run Tryd.prog w = .ok (.tuple #[.agg #[.int .i64 0], .bool false]) w := by kernel_rfl
theorem methEv3 (v : Int) (w : World) : (Go.method 268 129 (.agg #[.int .i64 v]) "loop.example/g01338/impl.seeds").run Tryd.prog w = .ok (98, .int .i64 v) w := by kernel_rfl
theorem asEv3 (v : Int) (w : World) : (Instr.typeAssert (.iface 129 (.agg #[.int .i64 v])) 99 125 true).run Tryd.prog w = .ok (.tuple #[.agg #[.int .i64 0], .bool false]) w := by kernel_rfl
/-- What seedsBehind hands back. -/
def sbSeeds (wh s am : Int) : Int := if wh = 0 then (if inB (s + am) 0 1000 then s + am else 0) else if s < am then 0 else s - am
def sbErr (A : Nat → Addr) (wh s am : Int) : Value := if wh = 0 then (if inB (s + am) 0 1000 then .nilIface else errVal (A 3)) else if s < am then errVal (A 8) else .nilIface
set_option maxRecDepth 100000 in
set_option maxHeartbeats 2000000 in
theorem seedsBehind0 (s am : Int) (hs : 0 ≤ s ∧ s ≤ 1000) (hm : 1 ≤ am ∧ am ≤ 1000) (A : Nat → Addr) (w : World) (S0 : Sents w A) :
    Calls Tryd.prog 46 #[.iface 125 (.agg #[.int .i64 am]), .int .i64 s] w fun e w' => e = .returned (.tuple #[.int .i64 (sbSeeds 0 s am), sbErr A 0 s am]) ∧ Below w.heap.size w w' := by
  have v3 := S0.v3
  have v8 := S0.v8
  clear S0
  have hm2 := methEv0 am
  obtain ⟨s1, s2⟩ := hs
  obtain ⟨m1, m2⟩ := hm
  obtain ⟨q, hq⟩ : ∃ q, inB (s + am) 0 1000 = q := ⟨_, rfl⟩
  have HQ := Lib.hid hq
  unfold sbSeeds sbErr
  rw [hq]
  clear hq
  cases q with
  | false =>
    go_enter Tryd.func46, Tryd.ntmps46
    go_upto_region 7 with (first
      | (rw [asEv0]; go_simp)
      | (go_at_call 98; refine (seedsH_any _ _).mono ?_; rintro e w' ⟨rfl, rfl⟩)
      | (go_at_call 60; refine (isSeeds_any _ _).mono ?_; rintro e w' ⟨rfl, rfl⟩; rw [HQ.out]))
    go_quiet (fail)
    go_wp2_with fail
    go_ret2
    exact ⟨rfl, below_drewN _ (Below.refl _ _)⟩
  | true =>
    go_enter Tryd.func46, Tryd.ntmps46
    go_wp2_with (first
      | (rw [asEv0]; go_simp)
      | (go_at_call 98; refine (seedsH_any _ _).mono ?_; rintro e w' ⟨rfl, rfl⟩)
      | (go_at_call 60; refine (isSeeds_any _ _).mono ?_; rintro e w' ⟨rfl, rfl⟩; rw [HQ.out]))
    go_ret2
    exact ⟨rfl, Below.refl _ _⟩
set_option maxRecDepth 100000 in
set_option maxHeartbeats 2000000 in
theorem seedsBehind1 (s am : Int) (hs : 0 ≤ s ∧ s ≤ 1000) (hm : 1 ≤ am ∧ am ≤ 1000) (A : Nat → Addr) (w : World) (S0 : Sents w A) :
    Calls Tryd.prog 46 #[.iface 127 (.agg #[.int .i64 am]), .int .i64 s] w fun e w' => e = .returned (.tuple #[.int .i64 (sbSeeds 1 s am), sbErr A 1 s am]) ∧ Below w.heap.size w w' := by
  have v3 := S0.v3
  have v8 := S0.v8
  clear S0
  have hm2 := methEv1 am
  obtain ⟨s1, s2⟩ := hs
  obtain ⟨m1, m2⟩ := hm
  have HQ : Hid (inB 0 0 0 = true) := Lib.hid rfl
  by_cases hlt : s < am
  · have e1 : Hid (sbSeeds 1 s am = 0) := Lib.hid (by unfold sbSeeds; rw [if_neg (by omega), if_pos hlt])
    have e2 : Hid (sbErr A 1 s am = errVal (A 8)) := Lib.hid (by unfold sbErr; rw [if_neg (by omega), if_pos hlt])
    rw [e1.out, e2.out]
    go_enter Tryd.func46, Tryd.ntmps46
    go_upto_region 3 with (first
      | (rw [asEv1]; go_simp)
      | (go_at_call 98; refine (seedsH_any _ _).mono ?_; rintro e w' ⟨rfl, rfl⟩)
      | (go_at_call 60; refine (isSeeds_any _ _).mono ?_; rintro e w' ⟨rfl, rfl⟩; rw [HQ.out]))
    go_quiet (fail)
    go_wp2_with fail
    go_ret2
    exact ⟨rfl, below_drewN _ (Below.refl _ _)⟩
  · have e1 : Hid (sbSeeds 1 s am = s - am) := Lib.hid (by unfold sbSeeds; rw [if_neg (by omega), if_neg hlt])
    have e2 : Hid (sbErr A 1 s am = .nilIface) := Lib.hid (by unfold sbErr; rw [if_neg (by omega), if_neg hlt])
    rw [e1.out, e2.out]
    go_enter Tryd.func46, Tryd.ntmps46
    go_wp2_with (first
      | (rw [asEv1]; go_simp)
      | (go_at_call 98; refine (seedsH_any _ _).mono ?_; rintro e w' ⟨rfl, rfl⟩)
      | (go_at_call 60; refine (isSeeds_any _ _).mono ?_; rintro e w' ⟨rfl, rfl⟩; rw [HQ.out]))
    go_ret2
    exact ⟨rfl, Below.refl _ _⟩
set_option maxRecDepth 100000 in
set_option maxHeartbeats 2000000 in
theorem seedsBehind2 (s am : Int) (hs : 0 ≤ s ∧ s ≤ 1000) (hm : 1 ≤ am ∧ am ≤ 1000) (A : Nat → Addr) (w : World) (S0 : Sents w A) :
    Calls Tryd.prog 46 #[.iface 128 (.agg #[.int .i64 am]), .int .i64 s] w fun e w' => e = .returned (.tuple #[.int .i64 (sbSeeds 2 s am), sbErr A 2 s am]) ∧ Below w.heap.size w w' := by
  have v3 := S0.v3
  have v8 := S0.v8
  clear S0
  have hm2 := methEv2 am
  obtain ⟨s1, s2⟩ := hs
  obtain ⟨m1, m2⟩ := hm
  have HQ : Hid (inB 0 0 0 = true) := Lib.hid rfl
  by_cases hlt : s < am
  · have e1 : Hid (sbSeeds 2 s am = 0) := Lib.hid (by unfold sbSeeds; rw [if_neg (by omega), if_pos hlt])
    have e2 : Hid (sbErr A 2 s am = errVal (A 8)) := Lib.hid (by unfold sbErr; rw [if_neg (by omega), if_pos hlt])
    rw [e1.out, e2.out]
    go_enter Tryd.func46, Tryd.ntmps46
    go_upto_region 3 with (first
      | (rw [asEv2]; go_simp)
      | (go_at_call 98; refine (seedsH_any _ _).mono ?_; rintro e w' ⟨rfl, rfl⟩)
      | (go_at_call 60; refine (isSeeds_any _ _).mono ?_; rintro e w' ⟨rfl, rfl⟩; rw [HQ.out]))
    go_quiet (fail)
    go_wp2_with fail
    go_ret2
    exact ⟨rfl, below_drewN _ (Below.refl _ _)⟩
  · have e1 : Hid (sbSeeds 2 s am = s - am) := Lib.hid (by unfold sbSeeds; rw [if_neg (by omega), if_neg hlt])
    have e2 : Hid (sbErr A 2 s am = .nilIface) := Lib.hid (by unfold sbErr; rw [if_neg (by omega), if_neg hlt])
    rw [e1.out, e2.out]
    go_enter Tryd.func46, Tryd.ntmps46
    go_wp2_with (first
      | (rw [asEv2]; go_simp)
      | (go_at_call 98; refine (seedsH_any _ _).mono ?_; rintro e w' ⟨rfl, rfl⟩)
      | (go_at_call 60; refine (isSeeds_any _ _).mono ?_; rintro e w' ⟨rfl, rfl⟩; rw [HQ.out]))
    go_ret2
    exact ⟨rfl, Below.refl _ _⟩
set_option maxRecDepth 100000 in
set_option maxHeartbeats 2000000 in
theorem seedsBehind3 (s am : Int) (hs : 0 ≤ s ∧ s ≤ 1000) (hm : 1 ≤ am ∧ am ≤ 1000) (A : Nat → Addr) (w : World) (S0 : Sents w A) :
    Calls Tryd.prog 46 #[.iface 129 (.agg #[.int .i64 am]), .int .i64 s] w fun e w' => e = .returned (.tuple #[.int .i64 (sbSeeds 3 s am), sbErr A 3 s am]) ∧ Below w.heap.size w w' := by
  have v3 := S0.v3
  have v8 := S0.v8
  clear S0
  have hm2 := methEv3 am
  obtain ⟨s1, s2⟩ := hs
  obtain ⟨m1, m2⟩ := hm
  have HQ : Hid (inB 0 0 0 = true) := Lib.hid rfl
  by_cases hlt : s < am
  · have e1 : Hid (sbSeeds 3 s am = 0) := Lib.hid (by unfold sbSeeds; rw [if_neg (by omega), if_pos hlt])
    have e2 : Hid (sbErr A 3 s am = errVal (A 8)) := Lib.hid (by unfold sbErr; rw [if_neg (by omega), if_pos hlt])
    rw [e1.out, e2.out]
    go_enter Tryd.func46, Tryd.ntmps46
    go_upto_region 3 with (first
      | (rw [asEv3]; go_simp)
      | (go_at_call 98; refine (seedsH_any _ _).mono ?_; rintro e w' ⟨rfl, rfl⟩)
      | (go_at_call 60; refine (isSeeds_any _ _).mono ?_; rintro e w' ⟨rfl, rfl⟩; rw [HQ.out]))
    go_quiet (fail)
    go_wp2_with fail
    go_ret2
    exact ⟨rfl, below_drewN _ (Below.refl _ _)⟩
  · have e1 : Hid (sbSeeds 3 s am = s - am) := Lib.hid (by unfold sbSeeds; rw [if_neg (by omega), if_neg hlt])
    have e2 : Hid (sbErr A 3 s am = .nilIface) := Lib.hid (by unfold sbErr; rw [if_neg (by omega), if_neg hlt])
    rw [e1.out, e2.out]
    go_enter Tryd.func46, Tryd.ntmps46
    go_wp2_with (first
      | (rw [asEv3]; go_simp)
      | (go_at_call 98; refine (seedsH_any _ _).mono ?_; rintro e w' ⟨rfl, rfl⟩)
      | (go_at_call 60; refine (isSeeds_any _ _).mono ?_; rintro e w' ⟨rfl, rfl⟩; rw [HQ.out]))
    go_ret2
    exact ⟨rfl, Below.refl _ _⟩
end Go.Proofs.YtgadjnddllaejaaDoor
