/-
  The codes of errors that say which entry is wrong.
-/
import Derived.Test.YtgadjnddllaejaaDoorCoreC
import Derived.OwnWalk
namespace Go.Proofs.YtgadjnddllaejaaDoor
open Go Go.RowKit Go.Extern.Stop Go.Stop Go.Extern

abbrev wrErr (x : Int) (a : Addr) : Value := .iface 62 (.agg #[.int .i64 x, errVal a])
theorem noIsW (v : Value) (xT : TypeId) (w : World) : (Instr.typeAssert (.iface 62 v) xT 130 true).run Tryd.prog w = .ok (.tuple #[.nilIface, .bool false]) w := run_typeAssert_lacksB Tryd.underlying130 (by kernel_rfl) (by kernel_rfl) v xT w
theorem hasUnW (v : Value) (xT : TypeId) (w : World) : (Instr.typeAssert (.iface 62 v) xT 112 true).run Tryd.prog w = .ok (.tuple #[.iface 62 v, .bool true]) w := run_typeAssert_hasB Tryd.underlying112 (by kernel_rfl) v xT w
theorem methUnW (v : Value) (w : World) : (Go.method 268 62 v "Unwrap").run Tryd.prog w = .ok (82, v) w := by kernel_rfl
theorem unwrapW_any (x : Int) (a : Addr) (w : World) : Calls Tryd.prog 82 #[.agg #[.int .i64 x, errVal a]] w fun e w' => e = .returned (errVal a) ∧ Below w.heap.size w w' := by
  unfold errVal
  go_enter Tryd.func82, Tryd.ntmps82
  go_wp2
  go_ret
  exact ⟨rfl, (Below.refl _ _).alloc (Nat.le_refl _) _⟩
set_option maxHeartbeats 4000000 in
theorem is_wr_same (x : Int) (a : Addr) (w : World) : Calls Tryd.prog 30 #[wrErr x a, errVal a] w fun e w' => e = .returned (.bool true) ∧ Below w.heap.size w w' := by
  unfold wrErr errVal
  obtain ⟨i, hi, hcmp⟩ := Option.map_eq_some_iff.1 isComp
  obtain ⟨j, hj, hjs⟩ := Option.map_eq_some_iff.1 isSize
  have h8 := @run_callFunc_extern Tryd.prog 49 _ Extern.ReflectliteType.typeOf Tryd.func49 (by kernel_rfl) (by kernel_rfl) (by kernel_rfl) (by kernel_rfl)
  have h32 := @run_callFunc_extern Tryd.prog 89 _ (Extern.ReflectliteType.method fun t => do Extern.Rtype.noPackHeld "Comparable" t; pure (.bool (← typeInfo t).comparable)) Tryd.func89 (by kernel_rfl) (by kernel_rfl) (by kernel_rfl) (by kernel_rfl)
  have tT := isTypeOf
  have cT := isComparable
  have mR := isMethodComparable
  have heq := fun w => run_eql_iface_ptr_same (P := Tryd.prog) w a Tryd.underlying54 Tryd.underlying134 hi hcmp hj
  have hne := fun w => run_eql_iface_types (P := Tryd.prog) 62 134 (.agg #[.int .i64 x, errVal a]) (.pointer (some a)) Tryd.underlying54 (by decide) w
  unfold errVal at hne
  have n1 := noIsW
  have n2 := hasUnW
  have n3 := methUnW
  go_enter Tryd.func30, Tryd.ntmps30
  go_wp2
  refine wp_loop_rounds 2 ?_
  rw [rounds_succ]
  go_wp2_with (go_at_call 82; refine (unwrapW_any x a _).mono ?_; rintro e w' ⟨rfl, hb⟩)
  have hb' := Lib.hid hb
  clear hb
  rw [rounds_succ]
  go_wp2
  go_ret
  exact ⟨rfl, hb'.out⟩
set_option maxHeartbeats 4000000 in
theorem is_wr_other (x : Int) (A : Nat → Addr) (m k : Nat) (hm : m ≤ 8) (h1 : 1 ≤ k) (h4 : k < m) (w : World) (S0 : Sents w A) : Calls Tryd.prog 30 #[wrErr x (A m), errVal (A k)] w fun e w' => e = .returned (.bool false) ∧ Below w.heap.size w w' := by
  have S := Lib.hid S0
  clear S0
  have hne4 := S.out.ne m k (by omega) (by omega) h1 (by omega) (by omega)
  have hk8 : k ≤ 8 := by omega
  unfold wrErr errVal
  obtain ⟨i, hi, hcmp⟩ := Option.map_eq_some_iff.1 isComp
  obtain ⟨j, hj, hjs⟩ := Option.map_eq_some_iff.1 isSize
  have h8 := @run_callFunc_extern Tryd.prog 49 _ Extern.ReflectliteType.typeOf Tryd.func49 (by kernel_rfl) (by kernel_rfl) (by kernel_rfl) (by kernel_rfl)
  have h32 := @run_callFunc_extern Tryd.prog 89 _ (Extern.ReflectliteType.method fun t => do Extern.Rtype.noPackHeld "Comparable" t; pure (.bool (← typeInfo t).comparable)) Tryd.func89 (by kernel_rfl) (by kernel_rfl) (by kernel_rfl) (by kernel_rfl)
  have tT := isTypeOf
  have cT := isComparable
  have mR := isMethodComparable
  have hne := fun w => run_eql_iface_types (P := Tryd.prog) 62 134 (.agg #[.int .i64 x, errVal (A m)]) (.pointer (some (A k))) Tryd.underlying54 (by decide) w
  unfold errVal at hne
  have n1 := noIsW
  have n2 := hasUnW
  have n3 := methUnW
  have nE := noIsE
  have uE := noUnwrapE
  have vE := noUnwrapsE
  go_enter Tryd.func30, Tryd.ntmps30
  go_wp2
  refine wp_loop_rounds 2 ?_
  rw [rounds_succ]
  go_wp2_with (go_at_call 82; refine (unwrapW_any x (A m) _).mono ?_; rintro e w' ⟨rfl, hb⟩)
  have S2 := Lib.hid (S.out.later hb)
  have hb' := Lib.hid hb
  clear hb
  obtain ⟨ca, ta, ha⟩ := S2.out.blk m (by omega) hm
  obtain ⟨cb, tb, hbk⟩ := S2.out.blk k h1 hk8
  have heq := run_eql_iface_ptr_other (P := Tryd.prog) w' Tryd.underlying54 Tryd.underlying134 hi hcmp hj (by rw [hjs]; decide) hne4 ha hbk
  clear ha hbk hne4
  unfold errVal
  rw [rounds_succ]
  go_wp2
  go_ret
  exact ⟨rfl, hb'.out⟩
set_option maxHeartbeats 2000000 in
theorem codeOf_wr (x : Int) (A : Nat → Addr) (m : Nat) (hm1 : 1 ≤ m) (hm8 : m ≤ 8) (w : World) (S0 : Sents w A) : Calls Tryd.prog 21 #[wrErr x (A m)] w fun e w' => e = .returned (.int .i64 m) ∧ Below w.heap.size w w' := by
  have S := Lib.hid S0
  clear S0
  go_enter Tryd.func21, Tryd.ntmps21
  go_wp2
  go_loopw [3] (fun i wr => ∃ j : Nat, 1 ≤ j ∧ j ≤ m ∧ i = .int .i64 j ∧ Hid (Below w.heap.size w wr)) (fun i _ => 9 - (intOf i).toNat)
  case atStart => exact ⟨1, by omega, by omega, rfl, Lib.hid (Below.refl _ _)⟩
  case round =>
    obtain ⟨j, hj1, hj2, rfl, hB⟩ := hrel
    by_cases hlt : j < m
    · go_wp2_with (first
        | (go_at_call 31; refine (errorOf_any A j hj1 (by omega) _ (S.out.later hB.out)).mono ?_; rintro e w' ⟨rfl, rfl⟩)
        | (go_at_call 30; refine (is_wr_other x A m j hm8 hj1 hlt _ (S.out.later hB.out)).mono ?_; rintro e w' ⟨rfl, hb⟩))
      go_roundw
      case rel => exact ⟨j + 1, by omega, by omega, by go_num, Lib.hid (hB.out.trans (hb.mono hB.out.size))⟩
      case measure => simp [intOf]; omega
    · obtain rfl : j = m := by omega
      go_wp2_with (first
        | (go_at_call 31; refine (errorOf_any A j hj1 (by omega) _ (S.out.later hB.out)).mono ?_; rintro e w' ⟨rfl, rfl⟩)
        | (go_at_call 30; refine (is_wr_same x (A j) _).mono ?_; rintro e w' ⟨rfl, hb⟩))
      go_ret
      exact ⟨rfl, hB.out.trans (hb.mono hB.out.size)⟩
end Go.Proofs.YtgadjnddllaejaaDoor
