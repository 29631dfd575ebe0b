/-
  The codes of errors of the program's own types: what is no field, what is no pair.
-/
import Derived.Test.YtgnfpmpjmliegaaDoorErr
import Derived.OwnWalk
namespace Go.Proofs.YtgnfpmpjmliegaaDoor
open Go Go.RowKit Go.Extern.Stop Go.Stop Go.Extern

/-- An error that wraps a sentinel; and the one of two fields. -/
abbrev fieldErr (a : Addr) : Value := .iface 93 (.agg #[errVal a])
abbrev pairErr : Value := .iface 78 (.agg #[])
theorem noIsF (v : Value) (xT : TypeId) (w : World) : (Instr.typeAssert (.iface 93 v) xT 99 true).run Tryd.prog w = .ok (.tuple #[.nilIface, .bool false]) w := run_typeAssert_lacksB Tryd.underlying99 (by kernel_rfl) (by kernel_rfl) v xT w
theorem noIsP (v : Value) (xT : TypeId) (w : World) : (Instr.typeAssert (.iface 78 v) xT 99 true).run Tryd.prog w = .ok (.tuple #[.nilIface, .bool false]) w := run_typeAssert_lacksB Tryd.underlying99 (by kernel_rfl) (by kernel_rfl) v xT w
theorem hasUnF (v : Value) (xT : TypeId) (w : World) : (Instr.typeAssert (.iface 93 v) xT 102 true).run Tryd.prog w = .ok (.tuple #[.iface 93 v, .bool true]) w := run_typeAssert_hasB Tryd.underlying102 (by kernel_rfl) v xT w
theorem hasUnP (v : Value) (xT : TypeId) (w : World) : (Instr.typeAssert (.iface 78 v) xT 102 true).run Tryd.prog w = .ok (.tuple #[.iface 78 v, .bool true]) w := run_typeAssert_hasB Tryd.underlying102 (by kernel_rfl) v xT w
theorem methUnF (v : Value) (w : World) : (Go.method 249 93 v "Unwrap").run Tryd.prog w = .ok (82, v) w := by kernel_rfl
theorem methUnP (v : Value) (w : World) : (Go.method 249 78 v "Unwrap").run Tryd.prog w = .ok (80, v) w := by kernel_rfl
theorem unwrapF_any (a : Addr) (w : World) : Calls Tryd.prog 82 #[.agg #[errVal a]] w fun e w' => e = .returned (errVal a) ∧ Below w.heap.size w w' := by
  unfold errVal
  go_enter Tryd.func82, Tryd.ntmps82
  go_wp2
  go_ret
  exact ⟨rfl, (Below.refl _ _).alloc (Nat.le_refl _) _⟩
theorem unwrapP_any (A : Nat → Addr) (w : World) (S : Sents w A) : Calls Tryd.prog 80 #[.agg #[]] w fun e w' => e = .returned (errVal (A 4)) ∧ Below w.heap.size w w' := by
  have b1 := (Below.refl w.heap.size w).alloc (Nat.le_refl _) (.cells #[] 78)
  have v4 := (S.later b1).v4
  go_enter Tryd.func80, Tryd.ntmps80
  go_wp2
  go_ret
  exact ⟨rfl, b1⟩
set_option maxHeartbeats 4000000 in
theorem is_field (a : Addr) (w : World) : Calls Tryd.prog 30 #[fieldErr a, errVal a] w fun e w' => e = .returned (.bool true) ∧ Below w.heap.size w w' := by
  unfold fieldErr errVal
  obtain ⟨i, hi, hcmp⟩ := Option.map_eq_some_iff.1 isComp
  obtain ⟨j, hj, hjs⟩ := Option.map_eq_some_iff.1 isSize
  have h8 := @run_callFunc_extern Tryd.prog 43 _ Extern.ReflectliteType.typeOf Tryd.func43 (by kernel_rfl) (by kernel_rfl) (by kernel_rfl) (by kernel_rfl)
  have h32 := @run_callFunc_extern Tryd.prog 87 _ (Extern.ReflectliteType.method fun t => do Extern.Rtype.noPackHeld "Comparable" t; pure (.bool (← typeInfo t).comparable)) Tryd.func87 (by kernel_rfl) (by kernel_rfl) (by kernel_rfl) (by kernel_rfl)
  have tT := isTypeOf
  have cT := isComparable
  have mR := isMethodComparable
  have heq := fun w => run_eql_iface_ptr_same (P := Tryd.prog) w a Tryd.underlying48 Tryd.underlying111 hi hcmp hj
  have hne := fun w => run_eql_iface_types (P := Tryd.prog) 93 111 (.agg #[errVal a]) (.pointer (some a)) Tryd.underlying48 (by decide) w
  unfold errVal at hne
  have n1 := noIsF
  have n2 := hasUnF
  have n3 := methUnF
  go_enter Tryd.func30, Tryd.ntmps30
  go_wp2
  refine wp_loop_rounds 2 ?_
  rw [rounds_succ]
  go_wp2_with (go_at_call 82; refine (unwrapF_any a _).mono ?_; rintro e w' ⟨rfl, hb⟩)
  have hb' := Lib.hid hb
  clear hb
  rw [rounds_succ]
  go_wp2
  go_ret
  exact ⟨rfl, hb'.out⟩
set_option maxHeartbeats 4000000 in
theorem is_pair_same (A : Nat → Addr) (w : World) (S0 : Sents w A) : Calls Tryd.prog 30 #[pairErr, errVal (A 4)] w fun e w' => e = .returned (.bool true) ∧ Below w.heap.size w w' := by
  have S := Lib.hid S0
  clear S0
  unfold pairErr errVal
  obtain ⟨i, hi, hcmp⟩ := Option.map_eq_some_iff.1 isComp
  obtain ⟨j, hj, hjs⟩ := Option.map_eq_some_iff.1 isSize
  have h8 := @run_callFunc_extern Tryd.prog 43 _ Extern.ReflectliteType.typeOf Tryd.func43 (by kernel_rfl) (by kernel_rfl) (by kernel_rfl) (by kernel_rfl)
  have h32 := @run_callFunc_extern Tryd.prog 87 _ (Extern.ReflectliteType.method fun t => do Extern.Rtype.noPackHeld "Comparable" t; pure (.bool (← typeInfo t).comparable)) Tryd.func87 (by kernel_rfl) (by kernel_rfl) (by kernel_rfl) (by kernel_rfl)
  have tT := isTypeOf
  have cT := isComparable
  have mR := isMethodComparable
  have heq := fun w => run_eql_iface_ptr_same (P := Tryd.prog) w (A 4) Tryd.underlying48 Tryd.underlying111 hi hcmp hj
  have hne := fun w => run_eql_iface_types (P := Tryd.prog) 78 111 (.agg #[]) (.pointer (some (A 4))) Tryd.underlying48 (by decide) w
  have n1 := noIsP
  have n2 := hasUnP
  have n3 := methUnP
  go_enter Tryd.func30, Tryd.ntmps30
  go_wp2
  refine wp_loop_rounds 2 ?_
  rw [rounds_succ]
  go_wp2_with (go_at_call 80; refine (unwrapP_any A _ S.out).mono ?_; rintro e w' ⟨rfl, hb⟩)
  have S2 := Lib.hid (S.out.later hb)
  have hb' := Lib.hid hb
  clear hb
  unfold errVal
  rw [rounds_succ]
  go_wp2
  go_ret
  exact ⟨rfl, hb'.out⟩
set_option maxHeartbeats 4000000 in
theorem is_pair_other (A : Nat → Addr) (k : Nat) (h1 : 1 ≤ k) (h4 : k < 4) (w : World) (S0 : Sents w A) : Calls Tryd.prog 30 #[pairErr, errVal (A k)] w fun e w' => e = .returned (.bool false) ∧ Below w.heap.size w w' := by
  have S := Lib.hid S0
  clear S0
  have hne4 := S.out.ne 4 k (by omega) (by omega) h1 (by omega) (by omega)
  have hk8 : k ≤ 8 := by omega
  unfold pairErr errVal
  obtain ⟨i, hi, hcmp⟩ := Option.map_eq_some_iff.1 isComp
  obtain ⟨j, hj, hjs⟩ := Option.map_eq_some_iff.1 isSize
  have h8 := @run_callFunc_extern Tryd.prog 43 _ Extern.ReflectliteType.typeOf Tryd.func43 (by kernel_rfl) (by kernel_rfl) (by kernel_rfl) (by kernel_rfl)
  have h32 := @run_callFunc_extern Tryd.prog 87 _ (Extern.ReflectliteType.method fun t => do Extern.Rtype.noPackHeld "Comparable" t; pure (.bool (← typeInfo t).comparable)) Tryd.func87 (by kernel_rfl) (by kernel_rfl) (by kernel_rfl) (by kernel_rfl)
  have tT := isTypeOf
  have cT := isComparable
  have mR := isMethodComparable
  have hne := fun w => run_eql_iface_types (P := Tryd.prog) 78 111 (.agg #[]) (.pointer (some (A k))) Tryd.underlying48 (by decide) w
  have n1 := noIsP
  have n2 := hasUnP
  have n3 := methUnP
  have nE := noIsE
  have uE := noUnwrapE
  have vE := noUnwrapsE
  go_enter Tryd.func30, Tryd.ntmps30
  go_wp2
  refine wp_loop_rounds 2 ?_
  rw [rounds_succ]
  go_wp2_with (go_at_call 80; refine (unwrapP_any A _ S.out).mono ?_; rintro e w' ⟨rfl, hb⟩)
  have S2 := Lib.hid (S.out.later hb)
  have hb' := Lib.hid hb
  clear hb
  obtain ⟨ca, ta, ha⟩ := S2.out.blk 4 (by omega) (by omega)
  obtain ⟨cb, tb, hbk⟩ := S2.out.blk k h1 hk8
  have heq := run_eql_iface_ptr_other (P := Tryd.prog) w' Tryd.underlying48 Tryd.underlying111 hi hcmp hj (by rw [hjs]; decide) hne4 ha hbk
  clear ha hbk hne4
  unfold errVal
  rw [rounds_succ]
  go_wp2
  go_ret
  exact ⟨rfl, hb'.out⟩
set_option maxHeartbeats 2000000 in
theorem codeOf_field (A : Nat → Addr) (w : World) (S0 : Sents w A) : Calls Tryd.prog 21 #[fieldErr (A 1)] w fun e w' => e = .returned (.int .i64 1) ∧ Below w.heap.size w w' := by
  have S := Lib.hid S0
  clear S0
  go_enter Tryd.func21, Tryd.ntmps21
  go_wp2
  refine wp_loop_rounds 1 ?_
  rw [rounds_succ]
  go_wp2_with (first
    | (go_at_call 31; refine (errorOf_any A 1 (by omega) (by omega) _ S.out).mono ?_; rintro e w' ⟨rfl, rfl⟩)
    | (go_at_call 30; refine (is_field _ _).mono ?_; rintro e w' ⟨rfl, hb⟩))
  go_ret
  exact ⟨rfl, hb⟩
set_option maxHeartbeats 2000000 in
theorem codeOf_pair (A : Nat → Addr) (w : World) (S0 : Sents w A) : Calls Tryd.prog 21 #[pairErr] w fun e w' => e = .returned (.int .i64 4) ∧ Below w.heap.size w w' := by
  have S := Lib.hid S0
  clear S0
  go_enter Tryd.func21, Tryd.ntmps21
  go_wp2
  go_loopw [3] (fun i wr => ∃ j : Nat, 1 ≤ j ∧ j ≤ 4 ∧ i = .int .i64 j ∧ Hid (Below w.heap.size w wr)) (fun i _ => 9 - (intOf i).toNat)
  case atStart => exact ⟨1, by omega, by omega, rfl, Lib.hid (Below.refl _ _)⟩
  case round =>
    obtain ⟨j, hj1, hj2, rfl, hB⟩ := hrel
    by_cases hlt : j < 4
    · go_wp2_with (first
        | (go_at_call 31; refine (errorOf_any A j hj1 (by omega) _ (S.out.later hB.out)).mono ?_; rintro e w' ⟨rfl, rfl⟩)
        | (go_at_call 30; refine (is_pair_other A j hj1 hlt _ (S.out.later hB.out)).mono ?_; rintro e w' ⟨rfl, hb⟩))
      go_roundw
      case rel => exact ⟨j + 1, by omega, by omega, by go_num, Lib.hid (hB.out.trans (hb.mono hB.out.size))⟩
      case measure => simp [intOf]; omega
    · obtain rfl : j = 4 := by omega
      go_wp2_with (first
        | (go_at_call 31; refine (errorOf_any A 4 hj1 (by omega) _ (S.out.later hB.out)).mono ?_; rintro e w' ⟨rfl, rfl⟩)
        | (go_at_call 30; refine (is_pair_same A _ (S.out.later hB.out)).mono ?_; rintro e w' ⟨rfl, hb⟩))
      go_ret
      exact ⟨rfl, hB.out.trans (hb.mono hB.out.size)⟩
end Go.Proofs.YtgnfpmpjmliegaaDoor
