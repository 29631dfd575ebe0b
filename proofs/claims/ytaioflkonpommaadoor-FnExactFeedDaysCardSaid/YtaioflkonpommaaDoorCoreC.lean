/-
  The program's sentinel errors by their codes: errors.Is on them, errorOf, codeOf.
  A map of the call's own whose keys are wide: the first look-up and the first store.
  The program's checks of fields and cells.
  The program's check of a field and some of its cells.
  The kind and the seeds of a cell: the model's, the program's.
-/
import Derived.Test.YtaioflkonpommaaDoorCoreA
import Derived.LaidEql
import Derived.Stop.Asserts
import Derived.RowKitTokens
import Derived.Lib.Hide
import Derived.Stop.IfaceNil
import Derived.DeepKeys3
import Derived.MapKept
import Derived.RangeFuncRecord
import Derived.Great.BuildSlice
import Derived.Outline
import Derived.OwnWalk
import Derived.Maps.OwnOps
import Derived.WalkSpells
namespace Go.Proofs.YtaioflkonpommaaDoor
section
open Go Go.RowKit Go.Extern.Stop Go.Stop Go.Extern

/-- A sentinel's value, by its address. -/
abbrev errVal (a : Addr) : Value := .iface 167 (.pointer (some a))

theorem isTypeOf (v : Value) (w : World) : (Extern.ReflectliteType.typeOf #[.iface 167 v]).run Tryd.prog w = .ok (.iface 150 (.agg #[.pointer (some ⟨9, 167, none⟩)])) w := by kernel_rfl
theorem isComparable (w : World) : ((Extern.ReflectliteType.method fun t => do Extern.Rtype.noPackHeld "Comparable" t; (fun a => Value.bool a.comparable) <$> typeInfo t) #[.agg #[.pointer (some ⟨9, 167, none⟩)]]).run Tryd.prog w = .ok (.bool true) w := by kernel_rfl
theorem isMethodComparable (v : Value) (w : World) : (Go.method 305 150 v "Comparable").run Tryd.prog w = .ok (132, v) w := by kernel_rfl
theorem isComp : (Tryd.prog.info? 167).map (·.comparable) = some true := by kernel_rfl
theorem isSize : (Tryd.prog.info? 193).map (·.size) = some 1 := by kernel_rfl
theorem noIsE (v : Value) (xT : TypeId) (w : World) : (Instr.typeAssert (.iface 167 v) xT 152 true).run Tryd.prog w = .ok (.tuple #[.nilIface, .bool false]) w := run_typeAssert_lacksB Tryd.underlying152 (by kernel_rfl) (by kernel_rfl) v xT w
theorem noUnwrapE (v : Value) (xT : TypeId) (w : World) : (Instr.typeAssert (.iface 167 v) xT 155 true).run Tryd.prog w = .ok (.tuple #[.nilIface, .bool false]) w := run_typeAssert_lacksB Tryd.underlying155 (by kernel_rfl) (by kernel_rfl) v xT w
theorem noUnwrapsE (v : Value) (xT : TypeId) (w : World) : (Instr.typeAssert (.iface 167 v) xT 157 true).run Tryd.prog w = .ok (.tuple #[.nilIface, .bool false]) w := run_typeAssert_lacksB Tryd.underlying157 (by kernel_rfl) (by kernel_rfl) v xT w

theorem isIfaceErr : Tryd.prog.isIface 79 = true := by kernel_rfl
/-- errors.Is(x, x). -/
theorem is_same (a : Addr) (w : World) : Calls Tryd.prog 72 #[errVal a, errVal a] w fun e w' => e = .returned (.bool true) ∧ w = w' := by
  unfold errVal
  obtain ⟨i, hi, hcmp⟩ := Option.map_eq_some_iff.1 isComp
  obtain ⟨j, hj, hjs⟩ := Option.map_eq_some_iff.1 isSize
  have h8 := @run_callFunc_extern Tryd.prog 88 _ Extern.ReflectliteType.typeOf Tryd.func88 (by kernel_rfl) (by kernel_rfl) (by kernel_rfl) (by kernel_rfl)
  have h32 := @run_callFunc_extern Tryd.prog 132 _ (Extern.ReflectliteType.method fun t => do Extern.Rtype.noPackHeld "Comparable" t; pure (.bool (← typeInfo t).comparable)) Tryd.func132 (by kernel_rfl) (by kernel_rfl) (by kernel_rfl) (by kernel_rfl)
  have tT := isTypeOf
  have cT := isComparable
  have mR := isMethodComparable
  have heq := run_eql_iface_ptr_same (P := Tryd.prog) w a Tryd.underlying79 Tryd.underlying167 hi hcmp hj
  go_enter Tryd.func72, Tryd.ntmps72
  go_wp2
  refine wp_loop_rounds 1 ?_
  rw [rounds_succ]
  go_wp2
  go_ret
  exact ⟨rfl, rfl⟩
/-- errors.Is(nil, x). -/
theorem is_nil (b : Addr) (w : World) : Calls Tryd.prog 72 #[.nilIface, errVal b] w fun e w' => e = .returned (.bool false) ∧ w = w' := by
  unfold errVal
  have hn := run_eql_iface_nil_left (P := Tryd.prog) w 167 (.pointer (some b)) Tryd.underlying79
  go_enter Tryd.func72, Tryd.ntmps72
  go_wp2
  go_ret
  exact ⟨rfl, rfl⟩
/-- errors.Is(x, y), two sentinels. -/
theorem is_other (a b : Addr) (w : World) (hne : a ≠ b) (ha : ∃ c t, w.heap[a.block]? = some (.cells c t (0, 0))) (hb : ∃ c t, w.heap[b.block]? = some (.cells c t (0, 0))) :
    Calls Tryd.prog 72 #[errVal a, errVal b] w fun e w' => e = .returned (.bool false) ∧ w = w' := by
  unfold errVal
  obtain ⟨ca, ta, ha⟩ := ha
  obtain ⟨cb, tb, hb⟩ := hb
  obtain ⟨i, hi, hcmp⟩ := Option.map_eq_some_iff.1 isComp
  obtain ⟨j, hj, hjs⟩ := Option.map_eq_some_iff.1 isSize
  have h8 := @run_callFunc_extern Tryd.prog 88 _ Extern.ReflectliteType.typeOf Tryd.func88 (by kernel_rfl) (by kernel_rfl) (by kernel_rfl) (by kernel_rfl)
  have h32 := @run_callFunc_extern Tryd.prog 132 _ (Extern.ReflectliteType.method fun t => do Extern.Rtype.noPackHeld "Comparable" t; pure (.bool (← typeInfo t).comparable)) Tryd.func132 (by kernel_rfl) (by kernel_rfl) (by kernel_rfl) (by kernel_rfl)
  have tT := isTypeOf
  have cT := isComparable
  have mR := isMethodComparable
  have nE := noIsE
  have uE := noUnwrapE
  have vE := noUnwrapsE
  have heq := run_eql_iface_ptr_other (P := Tryd.prog) w Tryd.underlying79 Tryd.underlying167 hi hcmp hj (by rw [hjs]; decide) hne ha hb
  go_enter Tryd.func72, Tryd.ntmps72
  go_wp2
  refine wp_loop_rounds 1 ?_
  rw [rounds_succ]
  go_wp2
  go_ret
  exact ⟨rfl, rfl⟩

/-- The sentinels as they lie: by their codes, 1 to 8. -/
structure Sents (w : World) (A : Nat → Addr) : Prop where
  v1 : w.cell? ⟨2, 0, none⟩ = some (errVal (A 1))
  v2 : w.cell? ⟨1, 0, none⟩ = some (errVal (A 2))
  v3 : w.cell? ⟨4, 0, none⟩ = some (errVal (A 3))
  v4 : w.cell? ⟨0, 0, none⟩ = some (errVal (A 4))
  v5 : w.cell? ⟨5, 0, none⟩ = some (errVal (A 5))
  v6 : w.cell? ⟨3, 0, none⟩ = some (errVal (A 6))
  v7 : w.cell? ⟨6, 0, none⟩ = some (errVal (A 7))
  v8 : w.cell? ⟨7, 0, none⟩ = some (errVal (A 8))
  blk : ∀ k, 1 ≤ k → k ≤ 8 → ∃ c t, w.heap[(A k).block]? = some (.cells c t (0, 0))
  ne : ∀ i j, 1 ≤ i → i ≤ 8 → 1 ≤ j → j ≤ 8 → i ≠ j → A i ≠ A j
theorem cell_later {w w' : World} {a : Addr} {v : Value} (h : w.cell? a = some v) (hb : Below w.heap.size w w') : w'.cell? a = some v := by
  have hlt := World.block_lt_of_cell? _ _ h
  obtain ⟨b, o, s⟩ := a
  rw [← h]
  simp only [World.cell?, hb.block b hlt]
theorem Sents.later {w w' : World} {A : Nat → Addr} (h : Sents w A) (hb : Below w.heap.size w w') : Sents w' A :=
  ⟨cell_later h.v1 hb, cell_later h.v2 hb, cell_later h.v3 hb, cell_later h.v4 hb, cell_later h.v5 hb, cell_later h.v6 hb, cell_later h.v7 hb, cell_later h.v8 hb,
    (fun k h1 h8 => by
      obtain ⟨c, t, hc⟩ := h.blk k h1 h8
      exact ⟨c, t, by rw [hb.block _ (Array.getElem?_eq_some_iff.1 hc).1]; exact hc⟩), h.ne⟩

theorem errorOf_any (A : Nat → Addr) (k : Nat) (h1 : 1 ≤ k) (h8 : k ≤ 8) (w : World) (S : Sents w A) : Calls Tryd.prog 73 #[.int .i64 k] w fun e w' => e = .returned (errVal (A k)) ∧ w = w' := by
  obtain ⟨v1, v2, v3, v4, v5, v6, v7, v8, _, _⟩ := S
  have hk : k = 1 ∨ k = 2 ∨ k = 3 ∨ k = 4 ∨ k = 5 ∨ k = 6 ∨ k = 7 ∨ k = 8 := by omega
  clear h1 h8
  rcases hk with rfl | rfl | rfl | rfl | rfl | rfl | rfl | rfl
  all_goals
    go_enter Tryd.func73, Tryd.ntmps73
    go_wp2
    go_ret
    exact ⟨rfl, rfl⟩

set_option maxHeartbeats 1000000 in
theorem codeOf_err (A : Nat → Addr) (k : Nat) (h1 : 1 ≤ k) (h8 : k ≤ 8) (w : World) (S0 : Sents w A) : Calls Tryd.prog 45 #[errVal (A k)] w fun e w' => e = .returned (.int .i64 k) ∧ w = w' := by
  have S : Hid (Sents w A) := Lib.hid S0
  clear S0
  go_enter Tryd.func45, Tryd.ntmps45
  go_wp2
  go_loop [3] (fun i => ∃ j : Nat, 1 ≤ j ∧ j ≤ k ∧ i = .int .i64 j) (fun i => 9 - (intOf i).toNat)
  case atStart => exact ⟨1, by omega, by omega, rfl⟩
  case round =>
    obtain ⟨j, hj1, hj2, rfl⟩ := hrel
    by_cases hlt : j < k
    · go_wp2_with (first
        | (go_at_call 73; refine (errorOf_any A j hj1 (by omega) _ S.out).mono ?_; rintro e w' ⟨rfl, rfl⟩)
        | (go_at_call 72; refine (is_other _ _ _ (S.out.ne k j h1 h8 hj1 (by omega) (by omega)) (S.out.blk k h1 h8) (S.out.blk j hj1 (by omega))).mono ?_; rintro e w' ⟨rfl, rfl⟩))
      go_round
      case rel => exact ⟨j + 1, by omega, by omega, by go_num⟩
      case measure => simp [intOf]; omega
    · obtain rfl : j = k := by omega
      go_wp2_with (first
        | (go_at_call 73; refine (errorOf_any A j hj1 (by omega) _ S.out).mono ?_; rintro e w' ⟨rfl, rfl⟩)
        | (go_at_call 72; refine (is_same _ _).mono ?_; rintro e w' ⟨rfl, rfl⟩))
      go_ret
      exact ⟨rfl, rfl⟩
set_option maxHeartbeats 1000000 in
theorem codeOf_nil (A : Nat → Addr) (w : World) (S0 : Sents w A) : Calls Tryd.prog 45 #[.nilIface] w fun e w' => e = .returned (.int .i64 0) ∧ w = w' := by
  have S : Hid (Sents w A) := Lib.hid S0
  clear S0
  go_enter Tryd.func45, Tryd.ntmps45
  go_wp2
  go_loop [3] (fun i => ∃ j : Nat, 1 ≤ j ∧ j ≤ 9 ∧ i = .int .i64 j) (fun i => 9 - (intOf i).toNat)
  case atStart => exact ⟨1, by omega, by omega, rfl⟩
  case round =>
    obtain ⟨j, hj1, hj2, rfl⟩ := hrel
    by_cases hlt : j < 9
    · go_wp2_with (first
        | (go_at_call 73; refine (errorOf_any A j hj1 (by omega) _ S.out).mono ?_; rintro e w' ⟨rfl, rfl⟩)
        | (go_at_call 72; refine (is_nil _ _).mono ?_; rintro e w' ⟨rfl, rfl⟩))
      go_round
      case rel => exact ⟨j + 1, by omega, by omega, by go_num⟩
      case measure => simp [intOf]; omega
    · obtain rfl : j = 9 := by omega
      go_wp2
      go_ret
      exact ⟨rfl, rfl⟩
end
section
open Go Go.RowKit

theorem mapM_all {α β : Type} {h : α → Option β} {g : α → β} : ∀ {l : List α}, (∀ x ∈ l, h x = some (g x)) → l.mapM h = some (l.map g)
  | [], _ => rfl
  | x :: l, hx => by
    rw [List.mapM_cons, hx x (List.mem_cons_self ..), mapM_all (fun y hy => hx y (List.mem_cons_of_mem _ hy))]
    rfl
theorem keyLitsInt {P : Program} {t : TypeId} {q : IntKind} {n : Int} (hu : P.underlying t = some (.int q)) (hw : (Lit.int q n).wf = true) (d : Nat) : P.keyLits (d + 1) t [.int q n] = some [.int q n] := by
  simp [Program.keyLits, hu, hw]
theorem keyLitsRow {P : Program} {t e : TypeId} {q : IntKind} {n : Nat} {f : Nat → Int} (hu : P.underlying t = some (.array n e)) (he : P.underlying e = some (.int q)) (hce : P.cellsOf e = 1) (hct : P.cellsOf t = n)
    (hf : ∀ i, i < n → (Lit.int q (f i)).wf = true) (d : Nat) : ∃ L, P.keyLits (d + 2) t (acells q n f).toList = some L := by
  have h1 : ((List.range n).mapM fun i => P.keyLits (d + 1) e (((acells q n f).toList.drop (i * P.cellsOf e)).take (P.cellsOf e))) = some ((List.range n).map fun i => [.int q (f i)]) := by
    refine mapM_all (fun i hi => ?_)
    have hi := List.mem_range.1 hi
    rw [hce, Nat.mul_one]
    have : ((acells q n f).toList.drop i).take 1 = [Value.int q (f i)] := by
      apply List.ext_getElem?
      intro j
      rw [List.getElem?_take]
      rcases j with _ | j
      · simp [acells, hi]
      · simp
    rw [this]
    exact keyLitsInt he (hf i hi) d
  refine ⟨((List.range n).map fun i => [Lit.int q (f i)]).flatten, ?_⟩
  unfold Program.keyLits
  simp only [hu]
  rw [if_pos (by rw [hct]; simp [acells]), h1]
  rfl
theorem keyLitsField {P : Program} {t t8 tK eK tS eS : TypeId} {fs : Array Field} (f : Fd) (hw : f.Wf)
    (hu : P.underlying t = some (.struct fs)) (hfs : fs.toList.map (fun x => (x.type, x.offset)) = [(t8, 0), (t8, 1), (tK, 2), (tS, 102)]) (hn : fs.all (·.name != "_") = true) (h8 : P.underlying t8 = some (.int .i8)) (hK : P.underlying tK = some (.array 100 eK)) (heK : P.underlying eK = some (.int .u8))
    (hS : P.underlying tS = some (.array 100 eS)) (heS : P.underlying eS = some (.int .i16)) (hct : P.cellsOf t = 202) (hc8 : P.cellsOf t8 = 1) (hcK : P.cellsOf tK = 100) (hcS : P.cellsOf tS = 100) (hceK : P.cellsOf eK = 1) (hceS : P.cellsOf eS = 1) :
    ∃ L, P.keyLits 4 t (fcells f).toList = some L := by
  obtain ⟨LK, hLK⟩ := keyLitsRow (f := f.K) hK heK hceK hcK (fun i hi => lit_u8 (hw.K i hi)) 1
  obtain ⟨LS, hLS⟩ := keyLitsRow (f := f.S) hS heS hceS hcS (fun i hi => lit_i16 (hw.S i hi)) 1
  have p0 : ((fcells f).toList.drop 0).take 1 = [.int .i8 f.W] := by
    apply List.ext_getElem?
    intro j; rw [List.getElem?_take]
    rcases j with _ | j
    · simpa using fcells_0 f
    · simp
  have p1 : ((fcells f).toList.drop 1).take 1 = [.int .i8 f.H] := by
    apply List.ext_getElem?
    intro j; rw [List.getElem?_take]
    rcases j with _ | j
    · simpa using fcells_1 f
    · simp
  have p2 : ((fcells f).toList.drop 2).take 100 = (acells .u8 100 f.K).toList := by
    apply List.ext_getElem?
    intro j; rw [List.getElem?_take]
    by_cases hj : j < 100
    · rw [if_pos hj, List.getElem?_drop, Array.getElem?_toList, Array.getElem?_toList, fcells_K f j hj, acells_get _ _ _ _ hj]
    · rw [if_neg hj, Array.getElem?_toList, Array.getElem?_eq_none (by rw [acells_size]; omega)]
  have p3 : ((fcells f).toList.drop 102).take 100 = (acells .i16 100 f.S).toList := by
    apply List.ext_getElem?
    intro j; rw [List.getElem?_take]
    by_cases hj : j < 100
    · rw [if_pos hj, List.getElem?_drop, Array.getElem?_toList, Array.getElem?_toList, fcells_S f j hj, acells_get _ _ _ _ hj]
    · rw [if_neg hj, Array.getElem?_toList, Array.getElem?_eq_none (by rw [acells_size]; omega)]
  obtain ⟨l⟩ := fs
  have hlen : l.length = 4 := by have := congrArg List.length hfs; simpa using this
  match l, hlen, hfs, hn with
  | [a, b, c, e], _, hfs, hn =>
    simp only [List.map_cons, List.map_nil, List.cons.injEq, Prod.mk.injEq, and_true] at hfs
    obtain ⟨⟨t0, o0⟩, ⟨t1, o1⟩, ⟨t2, o2⟩, ⟨t3, o3⟩⟩ := hfs
    unfold Program.keyLits
    simp only [hu]
    rw [if_pos ⟨by rw [hct]; simp [fcells], hn⟩]
    simp only [List.mapM_cons, List.mapM_nil, t0, o0, t1, o1, t2, o2, t3, o3, hc8, hcK, hcS, p0, p1, p2, p3, hLK, hLS, keyLitsInt h8 (lit_i8 hw.W) 2, keyLitsInt h8 (lit_i8 hw.H) 2]
    exact ⟨_, rfl⟩

/-- A slice literal of one row. -/
theorem run_buildSlice_row {P : Program} (w : World) (t e : TypeId) (cs : Array Value) (hu : P.underlying t = some (.slice e)) (hsz : (P.info? e).map (·.size) = some cs.size) (hz : ((P.info? e).bind (·.zero)).map (·.cells.size) = some cs.size) (hpos : 0 < cs.size) (hsmall : cs.size ≤ 2 ^ 24) :
    (Instr.buildSlice t 1 #[(0, .agg cs)]).run P w = .ok (.slice (some ⟨w.heap.size, 0, none⟩) 1 1) (w.alloc (.cells cs e)) := by
  cases hie : P.info? e with
  | none => simp [hie] at hsz
  | some ie =>
    simp only [hie, Option.map_some, Option.some.injEq, Option.bind_some] at hsz hz
    cases hzz : ie.zero with
    | none => simp [hzz] at hz
    | some z =>
      refine run_buildSlice w t e 1 _ cs ie z hu hie hzz (by rw [hsz]; omega) (by rw [hsz]; omega) ?_
      have := Great.fill_whole (s := cs.size) hpos [Value.agg cs] ((Array.range (1 * ie.size)).map (z.cells[· % z.cells.size]!)) (fun v hv => by
        have : v = .agg cs := by simpa using hv
        subst this; rfl) (by simp [hsz])
      rw [hsz] at this ⊢
      simpa [Value.cells] using this
theorem wpList_buildRow {P : Program} {ops : Array Oper} {rest : List Oper} {op : Oper} {a : Act} {w : World} {Q : Exit → Act → World → Prop} (hgd : op.guard = none) (t e : TypeId) (x : Operand) (ho : op.op = .buildSlice t 1 #[(0, x)]) (cs : Array Value) (hx : a.eval x = .agg cs)
    (hu : P.underlying t = some (.slice e)) (hsz : (P.info? e).map (·.size) = some cs.size) (hz : ((P.info? e).bind (·.zero)).map (·.cells.size) = some cs.size) (hpos : 0 < cs.size) (hsmall : cs.size ≤ 2 ^ 24)
    (h : wpList P ops Q rest (a.put op.dst (.slice (some ⟨w.heap.size, 0, none⟩) 1 1)) (w.alloc (.cells cs e))) : wpList P ops Q (op :: rest) a w := by
  refine wpList_plain hgd fun K hK => ?_
  unfold Oper.wp execOp
  have := run_buildSlice_row (P := P) w t e cs hu hsz hz hpos hsmall
  simp only [ho, List.map_toArray, List.map_cons, List.map_nil, hx, Sem.run_bind, this, Result.andThen_ok]
  exact hK _ _ h
theorem below_putObj {B : Nat} {a w : World} {m : Nat} {o : Obj} (h : Below B a w) (hB : B ≤ m) : Below B a (w.putObj m o) :=
  h.trans ⟨rfl, rfl, rfl, by simp, fun k hk => World.putObj_heap_other (by omega)⟩
theorem run_lookup_first {P : Program} {t k e : TypeId} {w : World} {m : Nat} {key z : Value} {L : List Lit} {D dd : Nat} (ht : P.underlying t = some (.map k e)) (hm : w.heap[m]? = some (.map #[] 0)) (hk : P.keyTypeAt dd k = true) (hdd : dd ≤ 10000)
    (hf : key.formed P k = true) (hL : P.keyLits D k key.cells.toList = some L) (hu : ∃ d, P.underlying k = some d) (hz : (zeroValue e).run P w = .ok z w) :
    (Instr.lookup t (.map (some m)) key false).run P w = .ok z w := by
  obtain ⟨d, hd⟩ := hu
  have hc : (Instr.checkKey true 10000 k key).run P w = .ok () w := by
    have := run_checkKey_deep (P := P) true (10000 - dd) dd k hk w D key L hf hL
    rwa [show 10000 - dd + dd = 10000 by omega] at this
  simp [Instr.lookup, run_underlying ht, MapKept.run_getObj_map hm, hc, Instr.findKey, run_underlying hd, Instr.findNow, hz, Result.andThen]
theorem run_update_first {P : Program} {t k e : TypeId} {w : World} {m : Nat} {key v : Value} {L : List Lit} {D dd : Nat} (ht : P.underlying t = some (.map k e)) (hm : w.heap[m]? = some (.map #[] 0)) (hk : P.keyTypeAt dd k = true) (hdd : dd ≤ 10000)
    (hf : key.formed P k = true) (hL : P.keyLits D k key.cells.toList = some L) (hu : ∃ d, P.underlying k = some d) :
    (Instr.mapUpdate t (.map (some m)) key v).run P w = .ok () (w.putObj m (.map #[{ key, val := v, born := 0 }] 1)) := by
  unfold World.putObj
  obtain ⟨d, hd⟩ := hu
  have hc : (Instr.checkKey false 10000 k key).run P w = .ok () w := by
    have := run_checkKey_deep (P := P) false (10000 - dd) dd k hk w D key L hf hL
    rwa [show 10000 - dd + dd = 10000 by omega] at this
  simp [Instr.mapUpdate, run_underlying ht, MapKept.run_getObj_map hm, hc, Instr.findKey, run_underlying hd, Instr.findNow, MapKept.run_setObj_map _ hm, Result.andThen]
end
section
open Go Go.RowKit

/-- The sentinel of what is not valid alone. -/
structure Sent1 (w : World) (A : Nat → Addr) : Prop where
  v1 : w.cell? ⟨2, 0, none⟩ = some (errVal (A 1))
theorem Sent1.later {w w' : World} {A : Nat → Addr} (h : Sent1 w A) (hb : Below w.heap.size w w') : Sent1 w' A := ⟨cell_later h.v1 hb⟩
theorem Sents.one {w : World} {A : Nat → Addr} (h : Sents w A) : Sent1 w A := ⟨h.v1⟩
def errIf (A : Nat → Addr) (k : Nat) (ok : Bool) : Value := if ok then .nilIface else errVal (A k)

end
section
open Go Go.RowKit

theorem errIf_true (A : Nat → Addr) (k : Nat) : errIf A k true = .nilIface := rfl
theorem errIf_false (A : Nat → Addr) (k : Nat) : errIf A k false = errVal (A k) := rfl
theorem okF_size {f : Fd} (h : okF f = true) : 1 ≤ f.W ∧ f.W ≤ 10 ∧ 1 ≤ f.H ∧ f.H ≤ 10 := by
  simp only [okF, Bool.and_eq_true, inB_iff] at h; omega

end
section
open Go Go.RowKit

theorem asked_0 {f : Fd} {c : Int} {b : Bool} (h : asked f c b = 0) : okF f = true ∧ isCell f c = true ∧ b = true := by
  unfold asked at h
  cases h1 : okF f <;> cases h2 : isCell f c <;> cases b <;> simp_all
theorem cell_nat {f : Fd} {c : Int} (h : isCell f c = true) : ∃ k : Nat, k < 100 ∧ c = (k : Int) := by
  simp only [isCell, Bool.and_eq_true, inB_iff] at h
  exact ⟨c.toNat, by omega, by omega⟩

def kindAt (f : Fd) (c : Int) : Int := if asked f c true = 0 then f.K c.toNat else 0
def seedsAt (f : Fd) (c : Int) : Int := if asked f c true = 0 then f.S c.toNat else 0
end
end Go.Proofs.YtaioflkonpommaaDoor
