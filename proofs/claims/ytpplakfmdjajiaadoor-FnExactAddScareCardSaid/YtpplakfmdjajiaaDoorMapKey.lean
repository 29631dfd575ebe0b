/-
  A map of the call's own whose keys are wide: the first look-up and the first store.
-/
import Derived.Test.YtpplakfmdjajiaaDoorFld
import Derived.Test.YtpplakfmdjajiaaDoorIn
import Derived.DeepKeys3
import Derived.MapKept
import Derived.RangeFuncRecord
import Derived.Great.BuildSlice
namespace Go.Proofs.YtpplakfmdjajiaaDoor
open Go Go.RowKit

theorem mapM_all {α β : Type} {h : α → Option β} {g : α → β} : ∀ {l : List α}, (∀ x ∈ l, h x = some (g x)) → l.mapM h = some (l.map g)
  | [], _ => rfl
  | x :: l, hx => by
    rw [List.mapM_cons, hx x (List.mem_cons_self ..), mapM_all (fun y hy => hx y (List.mem_cons_of_mem _ hy))]
    rfl
theorem keyLitsInt {P : Program} {t : TypeId} {q : IntKind} {n : Int} (hu : P.underlying t = some (.int q)) (hw : (Lit.int q n).wf = true) (d : Nat) : P.keyLits (d + 1) t [.int q n] = some [.int q n] := by
  simp [Program.keyLits, hu, hw]
theorem keyLitsRow {P : Program} {t e : TypeId} {q : IntKind} {n : Nat} {f : Nat → Int} (hu : P.underlying t = some (.array n e)) (he : P.underlying e = some (.int q)) (hce : P.cellsOf e = 1) (hct : P.cellsOf t = n)
    (hf : ∀ i, i < n → (Lit.int q (f i)).wf = true) (d : Nat) : ∃ L, P.keyLits (d + 2) t (acells q n f).toList = some L := by
  have h1 : ((List.range n).mapM fun i => P.keyLits (d + 1) e (((acells q n f).toList.drop (i * P.cellsOf e)).take (P.cellsOf e))) = some ((List.range n).map fun i => [.int q (f i)]) := by
    refine mapM_all (fun i hi => ?_)
    have hi := List.mem_range.1 hi
    rw [hce, Nat.mul_one]
    have : ((acells q n f).toList.drop i).take 1 = [Value.int q (f i)] := by
      apply List.ext_getElem?
      intro j
      rw [List.getElem?_take]
      rcases j with _ | j
      · simp [acells, hi]
      · simp
    rw [this]
    exact keyLitsInt he (hf i hi) d
  refine ⟨((List.range n).map fun i => [Lit.int q (f i)]).flatten, ?_⟩
  unfold Program.keyLits
  simp only [hu]
  rw [if_pos (by rw [hct]; simp [acells]), h1]
  rfl
theorem keyLitsField {P : Program} {t t8 tK eK tS eS : TypeId} {fs : Array Field} (f : Fd) (hw : f.Wf)
    (hu : P.underlying t = some (.struct fs)) (hfs : fs.toList.map (fun x => (x.type, x.offset)) = [(t8, 0), (t8, 1), (tK, 2), (tS, 102)]) (hn : fs.all (·.name != "_") = true) (h8 : P.underlying t8 = some (.int .i8)) (hK : P.underlying tK = some (.array 100 eK)) (heK : P.underlying eK = some (.int .u8))
    (hS : P.underlying tS = some (.array 100 eS)) (heS : P.underlying eS = some (.int .i16)) (hct : P.cellsOf t = 202) (hc8 : P.cellsOf t8 = 1) (hcK : P.cellsOf tK = 100) (hcS : P.cellsOf tS = 100) (hceK : P.cellsOf eK = 1) (hceS : P.cellsOf eS = 1) :
    ∃ L, P.keyLits 4 t (fcells f).toList = some L := by
  obtain ⟨LK, hLK⟩ := keyLitsRow (f := f.K) hK heK hceK hcK (fun i hi => lit_u8 (hw.K i hi)) 1
  obtain ⟨LS, hLS⟩ := keyLitsRow (f := f.S) hS heS hceS hcS (fun i hi => lit_i16 (hw.S i hi)) 1
  have p0 : ((fcells f).toList.drop 0).take 1 = [.int .i8 f.W] := by
    apply List.ext_getElem?
    intro j; rw [List.getElem?_take]
    rcases j with _ | j
    · simpa using fcells_0 f
    · simp
  have p1 : ((fcells f).toList.drop 1).take 1 = [.int .i8 f.H] := by
    apply List.ext_getElem?
    intro j; rw [List.getElem?_take]
    rcases j with _ | j
    · simpa using fcells_1 f
    · simp
  have p2 : ((fcells f).toList.drop 2).take 100 = (acells .u8 100 f.K).toList := by
    apply List.ext_getElem?
    intro j; rw [List.getElem?_take]
    by_cases hj : j < 100
    · rw [if_pos hj, List.getElem?_drop, Array.getElem?_toList, Array.getElem?_toList, fcells_K f j hj, acells_get _ _ _ _ hj]
    · rw [if_neg hj, Array.getElem?_toList, Array.getElem?_eq_none (by rw [acells_size]; omega)]
  have p3 : ((fcells f).toList.drop 102).take 100 = (acells .i16 100 f.S).toList := by
    apply List.ext_getElem?
    intro j; rw [List.getElem?_take]
    by_cases hj : j < 100
    · rw [if_pos hj, List.getElem?_drop, Array.getElem?_toList, Array.getElem?_toList, fcells_S f j hj, acells_get _ _ _ _ hj]
    · rw [if_neg hj, Array.getElem?_toList, Array.getElem?_eq_none (by rw [acells_size]; omega)]
  obtain ⟨l⟩ := fs
  have hlen : l.length = 4 := by have := congrArg List.length hfs; simpa using this
  match l, hlen, hfs, hn with
  | [a, b, c, e], _, hfs, hn =>
    simp only [List.map_cons, List.map_nil, List.cons.injEq, Prod.mk.injEq, and_true] at hfs
    obtain ⟨⟨t0, o0⟩, ⟨t1, o1⟩, ⟨t2, o2⟩, ⟨t3, o3⟩⟩ := hfs
    unfold Program.keyLits
    simp only [hu]
    rw [if_pos ⟨by rw [hct]; simp [fcells], hn⟩]
    simp only [List.mapM_cons, List.mapM_nil, t0, o0, t1, o1, t2, o2, t3, o3, hc8, hcK, hcS, p0, p1, p2, p3, hLK, hLS, keyLitsInt h8 (lit_i8 hw.W) 2, keyLitsInt h8 (lit_i8 hw.H) 2]
    exact ⟨_, rfl⟩

/-- A slice literal of one row. -/
theorem run_buildSlice_row {P : Program} (w : World) (t e : TypeId) (cs : Array Value) (hu : P.underlying t = some (.slice e)) (hsz : (P.info? e).map (·.size) = some cs.size) (hz : ((P.info? e).bind (·.zero)).map (·.cells.size) = some cs.size) (hpos : 0 < cs.size) (hsmall : cs.size ≤ 2 ^ 24) :
    (Instr.buildSlice t 1 #[(0, .agg cs)]).run P w = .ok (.slice (some ⟨w.heap.size, 0, none⟩) 1 1) (w.alloc (.cells cs e)) := by
  cases hie : P.info? e with
  | none => simp [hie] at hsz
  | some ie =>
    simp only [hie, Option.map_some, Option.some.injEq, Option.bind_some] at hsz hz
    cases hzz : ie.zero with
    | none => simp [hzz] at hz
    | some z =>
      refine run_buildSlice w t e 1 _ cs ie z hu hie hzz (by rw [hsz]; omega) (by rw [hsz]; omega) ?_
      have := Great.fill_whole (s := cs.size) hpos [Value.agg cs] ((Array.range (1 * ie.size)).map (z.cells[· % z.cells.size]!)) (fun v hv => by
        have : v = .agg cs := by simpa using hv
        subst this; rfl) (by simp [hsz])
      rw [hsz] at this ⊢
      simpa [Value.cells] using this
theorem wpList_buildRow {P : Program} {ops : Array Oper} {rest : List Oper} {op : Oper} {a : Act} {w : World} {Q : Exit → Act → World → Prop} (hgd : op.guard = none) (t e : TypeId) (x : Operand) (ho : op.op = .buildSlice t 1 #[(0, x)]) (cs : Array Value) (hx : a.eval x = .agg cs)
    (hu : P.underlying t = some (.slice e)) (hsz : (P.info? e).map (·.size) = some cs.size) (hz : ((P.info? e).bind (·.zero)).map (·.cells.size) = some cs.size) (hpos : 0 < cs.size) (hsmall : cs.size ≤ 2 ^ 24)
    (h : wpList P ops Q rest (a.put op.dst (.slice (some ⟨w.heap.size, 0, none⟩) 1 1)) (w.alloc (.cells cs e))) : wpList P ops Q (op :: rest) a w := by
  refine wpList_plain hgd fun K hK => ?_
  unfold Oper.wp execOp
  have := run_buildSlice_row (P := P) w t e cs hu hsz hz hpos hsmall
  simp only [ho, List.map_toArray, List.map_cons, List.map_nil, hx, Sem.run_bind, this, Result.andThen_ok]
  exact hK _ _ h
theorem below_putObj {B : Nat} {a w : World} {m : Nat} {o : Obj} (h : Below B a w) (hB : B ≤ m) : Below B a (w.putObj m o) :=
  h.trans ⟨rfl, rfl, rfl, by simp, fun k hk => World.putObj_heap_other (by omega)⟩
theorem run_lookup_first {P : Program} {t k e : TypeId} {w : World} {m : Nat} {key z : Value} {L : List Lit} {D dd : Nat} (ht : P.underlying t = some (.map k e)) (hm : w.heap[m]? = some (.map #[] 0)) (hk : P.keyTypeAt dd k = true) (hdd : dd ≤ 10000)
    (hf : key.formed P k = true) (hL : P.keyLits D k key.cells.toList = some L) (hu : ∃ d, P.underlying k = some d) (hz : (zeroValue e).run P w = .ok z w) :
    (Instr.lookup t (.map (some m)) key false).run P w = .ok z w := by
  obtain ⟨d, hd⟩ := hu
  have hc : (Instr.checkKey true 10000 k key).run P w = .ok () w := by
    have := run_checkKey_deep (P := P) true (10000 - dd) dd k hk w D key L hf hL
    rwa [show 10000 - dd + dd = 10000 by omega] at this
  simp [Instr.lookup, run_underlying ht, MapKept.run_getObj_map hm, hc, Instr.findKey, run_underlying hd, Instr.findNow, hz, Result.andThen]
theorem run_update_first {P : Program} {t k e : TypeId} {w : World} {m : Nat} {key v : Value} {L : List Lit} {D dd : Nat} (ht : P.underlying t = some (.map k e)) (hm : w.heap[m]? = some (.map #[] 0)) (hk : P.keyTypeAt dd k = true) (hdd : dd ≤ 10000)
    (hf : key.formed P k = true) (hL : P.keyLits D k key.cells.toList = some L) (hu : ∃ d, P.underlying k = some d) :
    (Instr.mapUpdate t (.map (some m)) key v).run P w = .ok () (w.putObj m (.map #[{ key, val := v, born := 0 }] 1)) := by
  unfold World.putObj
  obtain ⟨d, hd⟩ := hu
  have hc : (Instr.checkKey false 10000 k key).run P w = .ok () w := by
    have := run_checkKey_deep (P := P) false (10000 - dd) dd k hk w D key L hf hL
    rwa [show 10000 - dd + dd = 10000 by omega] at this
  simp [Instr.mapUpdate, run_underlying ht, MapKept.run_getObj_map hm, hc, Instr.findKey, run_underlying hd, Instr.findNow, MapKept.run_setObj_map _ hm, Result.andThen]
end Go.Proofs.YtpplakfmdjajiaaDoor
