/-
  The program's sentinel errors by their codes: errors.Is on them, errorOf, codeOf.
-/
import Derived.Test.YtpplakfmdjajiaaDoorBase
import Derived.LaidEql
import Derived.Stop.Asserts
import Derived.RowKitTokens
import Derived.Lib.Hide
import Derived.Stop.IfaceNil
namespace Go.Proofs.YtpplakfmdjajiaaDoor
open Go Go.RowKit Go.Extern.Stop Go.Stop Go.Extern

/-- A sentinel's value, by its address. -/
abbrev errVal (a : Addr) : Value := .iface 171 (.pointer (some a))

theorem isTypeOf (v : Value) (w : World) : (Extern.ReflectliteType.typeOf #[.iface 171 v]).run Tryd.prog w = .ok (.iface 161 (.agg #[.pointer (some ⟨8, 171, none⟩)])) w := by kernel_rfl
theorem isComparable (w : World) : ((Extern.ReflectliteType.method fun t => do Extern.Rtype.noPackHeld "Comparable" t; (fun a => Value.bool a.comparable) <$> typeInfo t) #[.agg #[.pointer (some ⟨8, 171, none⟩)]]).run Tryd.prog w = .ok (.bool true) w := by kernel_rfl
theorem isMethodComparable (v : Value) (w : World) : (Go.method 309 161 v "Comparable").run Tryd.prog w = .ok (157, v) w := by kernel_rfl
theorem isComp : (Tryd.prog.info? 171).map (·.comparable) = some true := by kernel_rfl
theorem isSize : (Tryd.prog.info? 197).map (·.size) = some 1 := by kernel_rfl
theorem noIsE (v : Value) (xT : TypeId) (w : World) : (Instr.typeAssert (.iface 171 v) xT 163 true).run Tryd.prog w = .ok (.tuple #[.nilIface, .bool false]) w := run_typeAssert_lacksB Tryd.underlying163 (by kernel_rfl) (by kernel_rfl) v xT w
theorem noUnwrapE (v : Value) (xT : TypeId) (w : World) : (Instr.typeAssert (.iface 171 v) xT 166 true).run Tryd.prog w = .ok (.tuple #[.nilIface, .bool false]) w := run_typeAssert_lacksB Tryd.underlying166 (by kernel_rfl) (by kernel_rfl) v xT w
theorem noUnwrapsE (v : Value) (xT : TypeId) (w : World) : (Instr.typeAssert (.iface 171 v) xT 167 true).run Tryd.prog w = .ok (.tuple #[.nilIface, .bool false]) w := run_typeAssert_lacksB Tryd.underlying167 (by kernel_rfl) (by kernel_rfl) v xT w

theorem isIfaceErr : Tryd.prog.isIface 73 = true := by kernel_rfl
/-- errors.Is(x, x). -/
theorem is_same (a : Addr) (w : World) : Calls Tryd.prog 87 #[errVal a, errVal a] w fun e w' => e = .returned (.bool true) ∧ w = w' := by
  unfold errVal
  obtain ⟨i, hi, hcmp⟩ := Option.map_eq_some_iff.1 isComp
  obtain ⟨j, hj, hjs⟩ := Option.map_eq_some_iff.1 isSize
  have h8 := @run_callFunc_extern Tryd.prog 118 _ Extern.ReflectliteType.typeOf Tryd.func118 (by kernel_rfl) (by kernel_rfl) (by kernel_rfl) (by kernel_rfl)
  have h32 := @run_callFunc_extern Tryd.prog 157 _ (Extern.ReflectliteType.method fun t => do Extern.Rtype.noPackHeld "Comparable" t; pure (.bool (← typeInfo t).comparable)) Tryd.func157 (by kernel_rfl) (by kernel_rfl) (by kernel_rfl) (by kernel_rfl)
  have tT := isTypeOf
  have cT := isComparable
  have mR := isMethodComparable
  have heq := run_eql_iface_ptr_same (P := Tryd.prog) w a Tryd.underlying73 Tryd.underlying171 hi hcmp hj
  go_enter Tryd.func87, Tryd.ntmps87
  go_wp2
  refine wp_loop_rounds 1 ?_
  rw [rounds_succ]
  go_wp2
  go_ret
  exact ⟨rfl, rfl⟩
/-- errors.Is(nil, x). -/
theorem is_nil (b : Addr) (w : World) : Calls Tryd.prog 87 #[.nilIface, errVal b] w fun e w' => e = .returned (.bool false) ∧ w = w' := by
  unfold errVal
  have hn := run_eql_iface_nil_left (P := Tryd.prog) w 171 (.pointer (some b)) Tryd.underlying73
  go_enter Tryd.func87, Tryd.ntmps87
  go_wp2
  go_ret
  exact ⟨rfl, rfl⟩
/-- errors.Is(x, y), two sentinels. -/
theorem is_other (a b : Addr) (w : World) (hne : a ≠ b) (ha : ∃ c t, w.heap[a.block]? = some (.cells c t (0, 0))) (hb : ∃ c t, w.heap[b.block]? = some (.cells c t (0, 0))) :
    Calls Tryd.prog 87 #[errVal a, errVal b] w fun e w' => e = .returned (.bool false) ∧ w = w' := by
  unfold errVal
  obtain ⟨ca, ta, ha⟩ := ha
  obtain ⟨cb, tb, hb⟩ := hb
  obtain ⟨i, hi, hcmp⟩ := Option.map_eq_some_iff.1 isComp
  obtain ⟨j, hj, hjs⟩ := Option.map_eq_some_iff.1 isSize
  have h8 := @run_callFunc_extern Tryd.prog 118 _ Extern.ReflectliteType.typeOf Tryd.func118 (by kernel_rfl) (by kernel_rfl) (by kernel_rfl) (by kernel_rfl)
  have h32 := @run_callFunc_extern Tryd.prog 157 _ (Extern.ReflectliteType.method fun t => do Extern.Rtype.noPackHeld "Comparable" t; pure (.bool (← typeInfo t).comparable)) Tryd.func157 (by kernel_rfl) (by kernel_rfl) (by kernel_rfl) (by kernel_rfl)
  have tT := isTypeOf
  have cT := isComparable
  have mR := isMethodComparable
  have nE := noIsE
  have uE := noUnwrapE
  have vE := noUnwrapsE
  have heq := run_eql_iface_ptr_other (P := Tryd.prog) w Tryd.underlying73 Tryd.underlying171 hi hcmp hj (by rw [hjs]; decide) hne ha hb
  go_enter Tryd.func87, Tryd.ntmps87
  go_wp2
  refine wp_loop_rounds 1 ?_
  rw [rounds_succ]
  go_wp2
  go_ret
  exact ⟨rfl, rfl⟩

/-- The sentinels as they lie: by their codes, 1 to 8. -/
structure Sents (w : World) (A : Nat → Addr) : Prop where
  v1 : w.cell? ⟨1, 0, none⟩ = some (errVal (A 1))
  v2 : w.cell? ⟨0, 0, none⟩ = some (errVal (A 2))
  v3 : w.cell? ⟨2, 0, none⟩ = some (errVal (A 3))
  v4 : w.cell? ⟨3, 0, none⟩ = some (errVal (A 4))
  v5 : w.cell? ⟨4, 0, none⟩ = some (errVal (A 5))
  v6 : w.cell? ⟨5, 0, none⟩ = some (errVal (A 6))
  v7 : w.cell? ⟨6, 0, none⟩ = some (errVal (A 7))
  v8 : w.cell? ⟨7, 0, none⟩ = some (errVal (A 8))
  blk : ∀ k, 1 ≤ k → k ≤ 8 → ∃ c t, w.heap[(A k).block]? = some (.cells c t (0, 0))
  ne : ∀ i j, 1 ≤ i → i ≤ 8 → 1 ≤ j → j ≤ 8 → i ≠ j → A i ≠ A j
theorem cell_later {w w' : World} {a : Addr} {v : Value} (h : w.cell? a = some v) (hb : Below w.heap.size w w') : w'.cell? a = some v := by
  have hlt := World.block_lt_of_cell? _ _ h
  obtain ⟨b, o, s⟩ := a
  rw [← h]
  simp only [World.cell?, hb.block b hlt]
theorem Sents.later {w w' : World} {A : Nat → Addr} (h : Sents w A) (hb : Below w.heap.size w w') : Sents w' A :=
  ⟨cell_later h.v1 hb, cell_later h.v2 hb, cell_later h.v3 hb, cell_later h.v4 hb, cell_later h.v5 hb, cell_later h.v6 hb, cell_later h.v7 hb, cell_later h.v8 hb,
    (fun k h1 h8 => by
      obtain ⟨c, t, hc⟩ := h.blk k h1 h8
      exact ⟨c, t, by rw [hb.block _ (Array.getElem?_eq_some_iff.1 hc).1]; exact hc⟩), h.ne⟩

theorem errorOf_any (A : Nat → Addr) (k : Nat) (h1 : 1 ≤ k) (h8 : k ≤ 8) (w : World) (S : Sents w A) : Calls Tryd.prog 88 #[.int .i64 k] w fun e w' => e = .returned (errVal (A k)) ∧ w = w' := by
  obtain ⟨v1, v2, v3, v4, v5, v6, v7, v8, _, _⟩ := S
  have hk : k = 1 ∨ k = 2 ∨ k = 3 ∨ k = 4 ∨ k = 5 ∨ k = 6 ∨ k = 7 ∨ k = 8 := by omega
  clear h1 h8
  rcases hk with rfl | rfl | rfl | rfl | rfl | rfl | rfl | rfl
  all_goals
    go_enter Tryd.func88, Tryd.ntmps88
    go_wp2
    go_ret
    exact ⟨rfl, rfl⟩

set_option maxHeartbeats 1000000 in
theorem codeOf_err (A : Nat → Addr) (k : Nat) (h1 : 1 ≤ k) (h8 : k ≤ 8) (w : World) (S0 : Sents w A) : Calls Tryd.prog 49 #[errVal (A k)] w fun e w' => e = .returned (.int .i64 k) ∧ w = w' := by
  have S : Hid (Sents w A) := Lib.hid S0
  clear S0
  go_enter Tryd.func49, Tryd.ntmps49
  go_wp2
  go_loop [3] (fun i => ∃ j : Nat, 1 ≤ j ∧ j ≤ k ∧ i = .int .i64 j) (fun i => 9 - (intOf i).toNat)
  case atStart => exact ⟨1, by omega, by omega, rfl⟩
  case round =>
    obtain ⟨j, hj1, hj2, rfl⟩ := hrel
    by_cases hlt : j < k
    · go_wp2_with (first
        | (go_at_call 88; refine (errorOf_any A j hj1 (by omega) _ S.out).mono ?_; rintro e w' ⟨rfl, rfl⟩)
        | (go_at_call 87; refine (is_other _ _ _ (S.out.ne k j h1 h8 hj1 (by omega) (by omega)) (S.out.blk k h1 h8) (S.out.blk j hj1 (by omega))).mono ?_; rintro e w' ⟨rfl, rfl⟩))
      go_round
      case rel => exact ⟨j + 1, by omega, by omega, by go_num⟩
      case measure => simp [intOf]; omega
    · obtain rfl : j = k := by omega
      go_wp2_with (first
        | (go_at_call 88; refine (errorOf_any A j hj1 (by omega) _ S.out).mono ?_; rintro e w' ⟨rfl, rfl⟩)
        | (go_at_call 87; refine (is_same _ _).mono ?_; rintro e w' ⟨rfl, rfl⟩))
      go_ret
      exact ⟨rfl, rfl⟩
set_option maxHeartbeats 1000000 in
theorem codeOf_nil (A : Nat → Addr) (w : World) (S0 : Sents w A) : Calls Tryd.prog 49 #[.nilIface] w fun e w' => e = .returned (.int .i64 0) ∧ w = w' := by
  have S : Hid (Sents w A) := Lib.hid S0
  clear S0
  go_enter Tryd.func49, Tryd.ntmps49
  go_wp2
  go_loop [3] (fun i => ∃ j : Nat, 1 ≤ j ∧ j ≤ 9 ∧ i = .int .i64 j) (fun i => 9 - (intOf i).toNat)
  case atStart => exact ⟨1, by omega, by omega, rfl⟩
  case round =>
    obtain ⟨j, hj1, hj2, rfl⟩ := hrel
    by_cases hlt : j < 9
    · go_wp2_with (first
        | (go_at_call 88; refine (errorOf_any A j hj1 (by omega) _ S.out).mono ?_; rintro e w' ⟨rfl, rfl⟩)
        | (go_at_call 87; refine (is_nil _ _).mono ?_; rintro e w' ⟨rfl, rfl⟩))
      go_round
      case rel => exact ⟨j + 1, by omega, by omega, by go_num⟩
      case measure => simp [intOf]; omega
    · obtain rfl : j = 9 := by omega
      go_wp2
      go_ret
      exact ⟨rfl, rfl⟩
end Go.Proofs.YtpplakfmdjajiaaDoor
