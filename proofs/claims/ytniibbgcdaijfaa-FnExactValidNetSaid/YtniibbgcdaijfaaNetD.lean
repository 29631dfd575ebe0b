/-
  A map of the call's own whose keys are nets: what is looked up, what is stored.
  validNets: all nets are valid for a field that is; the checks of the model's.
-/
import Derived.Test.YtniibbgcdaijfaaNetB
import Derived.Test.YtniibbgcdaijfaaMapKey
import Derived.DeepKeys4
import Derived.Below
import Derived.Test.YtniibbgcdaijfaaFlkIn
import Derived.OwnWalk
import Derived.Maps.OwnOps
import Derived.Outline
import Derived.RangeFuncRecord
namespace Go.Proofs.Ytniibbgcdaijfaa
section
open Go Go.RowKit

theorem keyLitsNet {P : Program} {t t8 : TypeId} {fs : Array Field} (a : Nat → Int) (ha : WfN a) (hu : P.underlying t = some (.struct fs)) (hfs : fs.toList.map (fun x => (x.type, x.offset)) = [(t8, 0), (t8, 1), (t8, 2), (t8, 3)]) (hn : fs.all (·.name != "_") = true)
    (h8 : P.underlying t8 = some (.int .i8)) (hct : P.cellsOf t = 4) (hc8 : P.cellsOf t8 = 1) (D : Nat) : ∃ L, P.keyLits (D + 2) t [.int .i8 (a 0), .int .i8 (a 1), .int .i8 (a 2), .int .i8 (a 3)] = some L := by
  obtain ⟨l⟩ := fs
  have hlen : l.length = 4 := by have := congrArg List.length hfs; simpa using this
  match l, hlen, hfs, hn with
  | [b, c, d, e], _, hfs, hn =>
    simp only [List.map_cons, List.map_nil, List.cons.injEq, Prod.mk.injEq, and_true] at hfs
    obtain ⟨⟨t0, o0⟩, ⟨t1, o1⟩, ⟨t2, o2⟩, ⟨t3, o3⟩⟩ := hfs
    unfold Program.keyLits
    simp only [hu]
    rw [if_pos ⟨by rw [hct]; rfl, hn⟩]
    simp only [List.mapM_cons, List.mapM_nil, t0, o0, t1, o1, t2, o2, t3, o3, hc8, List.drop, List.take, keyLitsInt h8 (lit_i8 ha.b0) D, keyLitsInt h8 (lit_i8 ha.b1) D, keyLitsInt h8 (lit_i8 ha.b2) D, keyLitsInt h8 (lit_i8 ha.b3) D]
    exact ⟨_, rfl⟩
theorem keyOf_of_lits {P : Program} {k : TypeId} {fs : Array Field} {xs : Array Value} {L : List Lit} (hu : P.underlying k = some (.struct fs)) (hk : P.keyType k = true) (hf : (Value.agg xs).formed P k = true) (hl : P.keyLits (P.types.size + 1) k xs.toList = some L) : ∃ l, keyOf P k (.agg xs) = some l := by
  refine ⟨.string (keyBytes L), ?_⟩
  unfold keyOf
  simp only [hu, hk, hf, Bool.and_self, if_true, Value.cells, hl, Option.map_some]
theorem keyNet (a : Nat → Int) (ha : WfN a) : ∃ l, keyOf Try.prog 33 (vNet a) = some l := by
  have hu : Try.prog.underlying 33 = some (.struct (Try.prog.fieldsOf 33)) := by kernel_rfl
  have hs : ∃ D, Try.prog.types.size + 1 = D + 2 := ⟨Try.prog.types.size - 1, by
    have h0 : decide (1 ≤ Try.prog.types.size) = true := by kernel_rfl
    have := of_decide_eq_true h0
    omega⟩
  obtain ⟨D, hD⟩ := hs
  obtain ⟨L, hL⟩ := keyLitsNet (P := Try.prog) (t8 := 22) a ha hu (by kernel_rfl) (by kernel_rfl) Try.underlying22 (by kernel_rfl) (by kernel_rfl) D
  refine keyOf_of_lits hu (by kernel_rfl) ?_ (L := L) (by rw [hD]; exact hL)
  simp only [Value.formed, hu]
  kernel_rfl
theorem laidB : laidOutB Try.prog = true := by kernel_rfl
theorem netLaw : WideMaps.KeyLaw Try.prog 33 := deep_law_laid (m := 4) laidB (by omega) (of_decide_eq_true (by kernel_rfl)) (by kernel_rfl) (by kernel_rfl)
/-- An entry of a net that fits. -/
def GoodE (f : Fd) (e : MapEntry) : Prop := e.val = .bool true ∧ ∃ a, WfN a ∧ e.key = vNet a ∧ netOk f a = true
theorem netOk_congr {f : Fd} {a b : Nat → Int} (h0 : a 0 = b 0) (h1 : a 1 = b 1) (h2 : a 2 = b 2) (h3 : a 3 = b 3) : netOk f a = netOk f b := by
  unfold netOk treeFree netIn insA
  rw [h0, h1, h2, h3]
theorem good_key {f : Fd} {e : MapEntry} {a : Nat → Int} (h : GoodE f e) (hk : e.key = vNet a) : netOk f a = true := by
  obtain ⟨_, b, _, hb, hok⟩ := h
  rw [hk] at hb
  have h2 : (#[.int .i8 (a 0), .int .i8 (a 1), .int .i8 (a 2), .int .i8 (a 3)] : Array Value) = #[.int .i8 (b 0), .int .i8 (b 1), .int .i8 (b 2), .int .i8 (b 3)] := by injection hb
  simp only [Array.mk.injEq, List.cons.injEq, Value.int.injEq, true_and, and_true] at h2
  obtain ⟨e0, e1, e2, e3⟩ := h2
  rw [netOk_congr e0 e1 e2 e3]; exact hok
end
section
open Go Go.RowKit

theorem putObj_at {w : World} {m : Nat} {o o' : Obj} (h : w.heap[m]? = some o) : (w.putObj m o').heap[m]? = some o' := by
  have hlt := (Array.getElem?_eq_some_iff.1 h).1
  unfold World.putObj
  simp [hlt]
theorem blk_putObj {w : World} {b m : Nat} {cs : Array Value} {t : TypeId} {o : Obj} (h : Blk w b cs t) (hne : b ≠ m) : Blk (w.putObj m o) b cs t :=
  (World.putObj_heap_other (by omega)).trans h
def netsOk (f : Fd) (n : Nat) (F : Nat → Nat → Int) : Bool := allTo n (fun i => netOk f (F i))
end
end Go.Proofs.Ytniibbgcdaijfaa
