/-
  Single cells, conversions and guarded steps in drawn regions; rows of truth values.
  Sets of cells as two words: copies, comparisons, membership.
  A number put into a set: the model's, the program's.
  The iterator over a set's numbers: its contract: all numbers, ascending.
  The cells that a closure wants: cellsWhere, by what the closure answers for each cell.
  The bits of a set: what a set has that a number is put into; the wanted set has the wanted cells.
  The list of a set, ascending, as the model makes it: a slice of its own.
-/
import Derived.Test.YtaccpnpoeikaaaaDoorCoreB
import Derived.Test.YtaccpnpoeikaaaaDoorCoreA
import Derived.Test.YtaccpnpoeikaaaaDoorCoreC
import Derived.RangeFuncCalls
import Derived.Deep.DeepCutAuto
import Derived.BigRegion
import Derived.RangeFuncNested
import Derived.Lib.Hide
import Derived.Deep.QuietTactic
import Derived.BigRegionIn
import Derived.Laws.Bits64b
import Derived.Below
import Derived.OwnWalk
namespace Go.Proofs.YtaccpnpoeikaaaaDoor
section
open Go Go.RowKit

section
variable {P : Program} {ops : Array Oper} {C : World → Prop} {l : List OpD} {Q : Act → Left → Prop} {o : Oper} {rest : List Oper} {k : Nat} {a : Act} {g : Left}
/-- A cell that is read. -/
theorem rel_cell (ty : TypeId) (x : Operand) (ho : o.op = .load ty x) (b off : Nat) (hx : a.eval x = .pointer (some ⟨b, off, none⟩)) (v : Value) (hl : l[k]? = some (dV v)) (hw : Region.wanted o (yielded ops a.tmps) = true)
    (hr : ∀ w, w.cell? ⟨b, off, none⟩ = some v → (Instr.loadAt ty (.pointer (some ⟨b, off, none⟩))).run P w = .ok v w) (hc : ∀ w, C w → w.cell? ⟨b, off, none⟩ = some v)
    (h2 : ∀ x, wpRel P ops C (DL l) Q rest (k + 1) (a.put o.dst v) (g.upd k x)) : wpRel P ops C (DL l) Q (o :: rest) k a g :=
  rel_val _ hl hw (fun w hw' => by
    unfold execOp
    simp only [ho, hx, Sem.run_bind, hr w (hc w hw'), Result.andThen_ok, Sem.run_pure]) h2
end
/-- A call of a closure that a slot holds. -/
theorem run_callDyn {P : Program} {o : Oper} {a : Act} {f : FuncId} {t : Operand} {caps : Array Value} {xs : Array Operand} {tys : Array TypeId} (ho : o.op = .call { callee := .value t, args := xs, argTypes := tys }) (ht : a.eval t = .func (.func f) #[] caps) (vs : Array Value) (hvs : xs.toList.map a.eval ++ caps.toList = vs.toList)
    (he : ∀ (args : Array Value) (w : World), (callFunc f args).run P w = .ok (.enter f args) w) (w : World) : (execOp a.eval o).run P w = .ok (.enter f vs) w := by
  obtain rfl : xs.map a.eval ++ caps = vs := Array.ext' (by rw [Array.toList_append, Array.toList_map]; exact hvs)
  unfold execOp
  simp only [ho, resolve, ht]
  simp [go_sem, invoke, he]
section
variable {P : Program} {ops : Array Oper} {C : World → Prop} {l : List OpD} {Q : Act → Left → Prop} {o : Oper} {rest : List Oper} {k : Nat} {a : Act} {g : Left}
theorem rel_callDyn (v0 : Value) (f : FuncId) (args : Array Value) (hl : l[k]? = some (dV v0)) (hw : Region.wanted o (yielded ops a.tmps) = true) {t : Operand} {caps : Array Value} {xs : Array Operand} {tys : Array TypeId} (ho : o.op = .call { callee := .value t, args := xs, argTypes := tys }) (ht : a.eval t = .func (.func f) #[] caps) (hvs : xs.toList.map a.eval ++ caps.toList = args.toList) (he : ∀ (args : Array Value) (w : World), (callFunc f args).run P w = .ok (.enter f args) w)
    (hc : ∀ w, C w → Calls P f args w (fun e w' => e = .returned v0 ∧ Below w.heap.size w w'))
    (h2 : ∀ x, wpRel P ops C (DL l) Q rest (k + 1) (a.put o.dst v0) (g.upd k x)) : wpRel P ops C (DL l) Q (o :: rest) k a g :=
  rel_step hw (goes_call f args (fun w _ => run_callDyn ho ht args hvs he w) (fun w hw' => (hc w hw').mono (fun e w' h => ⟨v0, h.1, h.2, by rw [DL_at hl]; rfl⟩))) (fun v lo hi _ ⟨w, _, h⟩ => by rw [DL_at hl] at h; cases h; exact h2 _)
end
/-- The same at a plain region's list, within a fence. -/
theorem callDynIn {F : Fence} {n : Nat} {P : Program} {ops : Array Oper} {Q : Exit → Act → World → Prop} {rest : List Oper} {op : Oper} {a : Act} {w : World} (hF : ∀ k, F.fn k) (hdep : F.depth.isSome = false) (hgd : op.guard = none) {f : FuncId} {t : Operand} {caps : Array Value} {xs : Array Operand} {tys : Array TypeId} (ho : op.op = .call { callee := .value t, args := xs, argTypes := tys }) (ht : a.eval t = .func (.func f) #[] caps) (vs : Array Value) (hvs : xs.toList.map a.eval ++ caps.toList = vs.toList)
    (he : ∀ (args : Array Value) (w : World), (callFunc f args).run P w = .ok (.enter f args) w) (v0 : Value) (R : World → Prop) (hc : CallsIn F (n - 1) P f vs w (fun e w' => e = .returned v0 ∧ R w'))
    (h : ∀ w', R w' → wpListIn F n P ops Q rest (a.put op.dst v0) w') : wpListIn F n P ops Q (op :: rest) a w := by
  have hw : Region.wanted op (yielded ops a.tmps) = true := by simp [Region.wanted, hgd]
  unfold wpListIn
  rw [if_pos hw]
  unfold Oper.wpIn
  refine ⟨fun f' _ => hF f', ?_⟩
  rw [semAt_plain F.round a.eval op (fun c e => by rw [ho] at e; cases e), run_callDyn ho ht vs hvs he w, Oper.uponIn_enter]
  refine ⟨fun h => (by rw [hdep] at h; cases h), hc.mono fun e w2 ⟨he, hr⟩ => ?_⟩
  subst he
  exact h _ hr
theorem load_i16 (b off : Nat) (n : Int) (w : World) (c : w.cell? ⟨b, off, none⟩ = some (.int .i16 n)) : (Instr.loadAt 24 (.pointer (some ⟨b, off, none⟩))).run Tryd.prog w = .ok (.int .i16 n) w := by
  simp [go_sem, c]
end
section
open Go Go.RowKit

theorem zeroC : (#[.int .u64 0, .int .u64 0] : Array Value) = acells .u64 2 (fun _ => 0) := by rfl
theorem sizeA : (Tryd.prog.info? 31).map (·.size) = some 2 := by kernel_rfl
theorem sizeC : (Tryd.prog.info? 32).map (·.size) = some 2 := by kernel_rfl
set_option maxHeartbeats 400000 in
theorem eqCells (f : Nat → Int) (w : World) : Calls Tryd.prog 12 #[.agg (acells .u64 2 f), .agg (acells .u64 2 f)] w fun e w' => e = .returned (.bool true) ∧ Below w.heap.size w w' := by
  go_enter Tryd.func12, Tryd.ntmps12
  go_wp2_with fail
  obtain ⟨W, hW⟩ : ∃ W, (w.alloc (Obj.cells (acells .u64 2 f) 32)).alloc (Obj.cells (acells .u64 2 f) 32) = W := ⟨_, rfl⟩
  have hb : Below w.heap.size w W := by subst hW; exact ((Below.refl _ _).alloc (Nat.le_refl _) _).alloc (by simp) _
  have h1 : Blk W w.heap.size (acells .u64 2 f) 32 := by subst hW; exact (Blk.new _ _ _).alloc _
  have h2 : Blk W (w.heap.size + 1) (acells .u64 2 f) 32 := by subst hW; have := Blk.new (w.alloc (Obj.cells (acells .u64 2 f) 32)) (acells .u64 2 f) 32; rwa [World.size_alloc] at this
  rw [hW]; clear hW
  go_loopw [5] (fun i wr => ∃ k : Nat, k ≤ 2 ∧ i = .int .i64 k ∧ Below w.heap.size w wr ∧ Blk wr w.heap.size (acells .u64 2 f) 32 ∧ Blk wr (w.heap.size + 1) (acells .u64 2 f) 32) (fun i _ => 2 - (intOf i).toNat)
  case atStart => exact ⟨0, by omega, rfl, hb, h1, h2⟩
  case round =>
    clear hb h1 h2
    obtain ⟨k, hk, rfl, hb, h1, h2⟩ := hrel
    by_cases hlt : k < 2
    · have c1 := h1.cell (acells_get _ _ _ k hlt)
      have c2 := h2.cell (acells_get _ _ _ k hlt)
      go_wp2_with fail
      go_quiet (fail)
      go_wp2_with fail
      go_roundw
      case rel => exact ⟨k + 1, by omega, by go_num, below_drewN _ hb, h1.drewN _, h2.drewN _⟩
      case measure => simp [intOf]; omega
    · have hge : 2 ≤ k := by omega
      go_wp2_with fail
      go_ret
      exact ⟨rfl, hb⟩


/-- Is the number in the set of the two words f 0, f 1? -/
def hasC (f : Nat → Int) (c : Int) : Bool := inB c 0 99 && (bits BinOp.and IntKind.u64 ((if c < 64 then f 0 else f 1) / 2 ^ (c % 64).toNat) 1 == 1)
end
section
open Go Go.RowKit

/-- A word of a set with one bit more. -/
def withBit (x : Int) (k : Nat) : Int := bits BinOp.or .u64 x (IntKind.u64.wrap (2 ^ k))
/-- A set with one number more. -/
def putC (g : Nat → Int) (k : Nat) : Nat → Int := fun i => if i = k / 64 then withBit (g i) (k % 64) else g i
theorem putC_low (g : Nat → Int) {k : Nat} (h : k < 64) : acells .u64 2 (fun i => if i = 0 then withBit (g 0) k else g i) = acells .u64 2 (putC g k) := acells_congr (fun i _ => by
  unfold putC
  rw [Nat.div_eq_of_lt h, Nat.mod_eq_of_lt h]
  by_cases e : i = 0
  · subst e; simp
  · simp [e])
theorem putC_high (g : Nat → Int) {k : Nat} (h : k < 128) (e1 : ¬ k < 64) : acells .u64 2 (fun i => if i = 1 then withBit (g 1) (k - 64) else g i) = acells .u64 2 (putC g k) := acells_congr (fun i _ => by
  unfold putC
  rw [show k / 64 = 1 by omega, show k % 64 = k - 64 by omega]
  by_cases e : i = 1
  · subst e; simp
  · simp [e])
set_option maxRecDepth 100000 in
set_option maxHeartbeats 1000000 in
theorem l01Put_any (g : Nat → Int) (k : Nat) (hk : k < 100) (b : Nat) (w : World) (B : Blk w b (acells .u64 2 g) 32) :
    Calls Tryd.prog 34 #[.pointer (some ⟨b, 0, none⟩), .int .i64 k] w fun e w' => (∃ v, e = .returned v) ∧ ∃ i v, (w.setCell ⟨b, i, none⟩ v).drew = w' ∧ (acells .u64 2 g).setIfInBounds i v = acells .u64 2 (putC g k) := by
  by_cases h : k < 64
  · have c0 := B.cell (acells_get .u64 2 g 0 (by omega))
    have e0 := B.free 0
    have hq : (k : Int) / 64 = 0 := by omega
    have hr : (k : Int) % 64 = k := by omega
    go_enter Tryd.func34, Tryd.ntmps34
    go_wp2_with fail
    go_region
    all_goals (go_end0; exact ⟨⟨_, rfl⟩, 0, _, rfl, (acells_set .u64 2 g 0 _ (by omega)).trans (putC_low g h)⟩)
  · have c0 := B.cell (acells_get .u64 2 g 1 (by omega))
    have e0 := B.free 1
    have hq : (k : Int) / 64 = 1 := by omega
    have hr : (k : Int) % 64 = ((k - 64 : Nat) : Int) := by omega
    have hl : k - 64 < 64 := by omega
    go_enter Tryd.func34, Tryd.ntmps34
    go_wp2_with fail
    go_region
    all_goals (go_end0; exact ⟨⟨_, rfl⟩, 1, _, rfl, (acells_set .u64 2 g 1 _ (by omega)).trans (putC_high g (by omega) h)⟩)
theorem zero2 : (#[.int .u64 0, .int .u64 0] : Array Value) = acells .u64 2 (fun _ => 0) := rfl
set_option maxRecDepth 100000 in
set_option maxHeartbeats 2000000 in
theorem withCell_any (g : Nat → Int) (k : Nat) (hk : k < 100) (w : World) : Calls Tryd.prog 54 #[.agg (acells .u64 2 g), .int .i64 k] w fun e w' => e = .returned (.agg (acells .u64 2 (putC g k))) ∧ Below w.heap.size w w' := by
  go_enter Tryd.func54, Tryd.ntmps54
  go_upto_region 1 with (fail)
  rw [zero2]
  obtain ⟨W, hW, M⟩ := open2 w (acells .u64 2 g) 32 (acells .u64 2 (fun _ => 0)) 32
  rw [hW]; clear hW
  have fin : ∀ W2, Mem w W2 [⟨w.heap.size, acells .u64 2 (putC g k), 32⟩, ⟨w.heap.size + 1, acells .u64 2 (fun _ => 0), 32⟩] → Mem w (W2.setRow (w.heap.size + 1) (acells .u64 2 (putC g k))) [⟨w.heap.size, acells .u64 2 (putC g k), 32⟩, ⟨w.heap.size + 1, acells .u64 2 (putC g k), 32⟩] := fun W2 H => H.row 1 rfl _
  have FIN := Lib.hid fin
  clear fin
  by_cases h : k < 64
  · have c0 := (M.at 0 rfl).cell (acells_get .u64 2 g 0 (by omega))
    have e0 := (M.at 0 rfl).free 0
    have hq : (k : Int) / 64 = 0 := by omega
    have hr : (k : Int) % 64 = k := by omega
    have M2 := Lib.hid ((M.set 0 0 (.int .u64 (withBit (g 0) k)) rfl _ ((acells_set .u64 2 g 0 _ (by omega)).trans (putC_low g h))).drew)
    go_region
    all_goals (go_wp2_with (first
      | (refine wpList_load_part rfl 32 _ rfl w.heap.size 0 rfl (acells .u64 2 (putC g k)) _ (M2.out.at 0 rfl).whole Tryd.underlying32 rfl (by rw [acells_size]; exact sizeC) ?_)
      | (refine wpList_store_row rfl 32 _ _ rfl (w.heap.size + 1) (acells .u64 2 (putC g k)) rfl rfl 32 _ (M2.out.at 1 rfl) (by rw [acells_size]; exact sizeC) (by rw [acells_size, acells_size]) (acells_one _ _ _) ?_)))
    all_goals exact bodyPost_ret (results_cell_row rfl _ _ (w.heap.size + 1) 32 _ _ _ rfl ((FIN.out _ M2.out).at 1 rfl) Tryd.underlying32 rfl (by rw [acells_size]; exact sizeC)) rfl ⟨rfl, (FIN.out _ M2.out).below⟩
  · have c0 := (M.at 0 rfl).cell (acells_get .u64 2 g 1 (by omega))
    have e0 := (M.at 0 rfl).free 1
    have hq : (k : Int) / 64 = 1 := by omega
    have hr : (k : Int) % 64 = ((k - 64 : Nat) : Int) := by omega
    have hl : k - 64 < 64 := by omega
    have M2 := Lib.hid ((M.set 0 1 (.int .u64 (withBit (g 1) (k - 64))) rfl _ ((acells_set .u64 2 g 1 _ (by omega)).trans (putC_high g (by omega) h))).drew)
    go_region
    all_goals (go_wp2_with (first
      | (refine wpList_load_part rfl 32 _ rfl w.heap.size 0 rfl (acells .u64 2 (putC g k)) _ (M2.out.at 0 rfl).whole Tryd.underlying32 rfl (by rw [acells_size]; exact sizeC) ?_)
      | (refine wpList_store_row rfl 32 _ _ rfl (w.heap.size + 1) (acells .u64 2 (putC g k)) rfl rfl 32 _ (M2.out.at 1 rfl) (by rw [acells_size]; exact sizeC) (by rw [acells_size, acells_size]) (acells_one _ _ _) ?_)))
    all_goals exact bodyPost_ret (results_cell_row rfl _ _ (w.heap.size + 1) 32 _ _ _ rfl ((FIN.out _ M2.out).at 1 rfl) Tryd.underlying32 rfl (by rw [acells_size]; exact sizeC)) rfl ⟨rfl, (FIN.out _ M2.out).below⟩
end
section
open Go Go.RowKit Go.Shelf

/-- A number of the set g. -/
abbrev NumOf (g : Nat → Int) : Type := { c : Nat // c < 100 ∧ hasC g (c : Int) = true }
/-- The set's numbers below n, ascending. -/
def numsTo (g : Nat → Int) : Nat → List (NumOf g)
  | 0 => []
  | n + 1 => if h : n < 100 ∧ hasC g (n : Int) = true then numsTo g n ++ [⟨n, h⟩] else numsTo g n
theorem numsTo_yes {g : Nat → Int} {n : Nat} (h : n < 100 ∧ hasC g (n : Int) = true) : numsTo g (n + 1) = numsTo g n ++ [⟨n, h⟩] := by simp [numsTo, h]
theorem numsTo_no {g : Nat → Int} {n : Nat} (h : hasC g (n : Int) = false) : numsTo g (n + 1) = numsTo g n := by simp [numsTo, h]
theorem numsTo_length (g : Nat → Int) : ∀ n, (numsTo g n).length ≤ n
  | 0 => Nat.le_refl _
  | n + 1 => by
    have := numsTo_length g n
    unfold numsTo; split
    · simp; omega
    · omega
end
section
open Go Go.RowKit Go.Shelf
attribute [local go_sem] Oper.semAt_some

/-- The cells below n that are wanted. -/
def wantSet (f : Fd) (q : Nat → Bool) : Nat → Nat → Int
  | 0 => fun _ => 0
  | n + 1 => if (isCell f n && q n) = true then putC (wantSet f q n) n else wantSet f q n
theorem wantSet_yes {f : Fd} {q : Nat → Bool} {n : Nat} (h1 : isCell f n = true) (h2 : q n = true) : wantSet f q (n + 1) = putC (wantSet f q n) n := by
  rw [wantSet, h1, h2]; rfl
theorem wantSet_no {f : Fd} {q : Nat → Bool} {n : Nat} (h : (isCell f n && q n) = false) : wantSet f q (n + 1) = wantSet f q n := by
  rw [wantSet, h]; rfl
/-- The wanted cells of a list. -/
def wantL {f : Fd} (q : Nat → Bool) (l : List (CellOf f)) : Nat → Int := l.foldl (fun g c => if q c.1 = true then putC g c.1 else g) (fun _ => 0)
theorem wantL_snoc {f : Fd} (q : Nat → Bool) (l : List (CellOf f)) (c : CellOf f) : wantL q (l ++ [c]) = if q c.1 = true then putC (wantL q l) c.1 else wantL q l := by simp only [wantL, List.foldl_append, List.foldl_cons, List.foldl_nil]
theorem wantL_to (f : Fd) (q : Nat → Bool) : ∀ n, wantL q (cellsTo f n) = wantSet f q n
  | 0 => rfl
  | n + 1 => by
    have ih := wantL_to f q n
    cases h : isCell f n with
    | true =>
      rw [cellsTo_yes h, wantL_snoc, ih, wantSet, h, Bool.true_and]
    | false => rw [cellsTo_no h, ih, wantSet_no (by rw [h]; rfl)]
set_option maxRecDepth 100000 in
set_option maxHeartbeats 8000000 in
theorem cellsWhere_any (f : Fd) (hok : okF f = true) (fc : FuncId) (caps : Array Value) (q : Nat → Bool) (E : World → Prop) (hE : ∀ w w', E w → Below w.heap.size w w' → E w')
    (hcl : ∀ (k : Nat) (w' : World), isCell f k = true → E w' → Calls Tryd.prog fc (#[.int .i64 k] ++ caps) w' fun e w2 => e = .returned (.bool (q k)) ∧ Below w'.heap.size w' w2)
    (w : World) (he : E w) (hent : ∀ (args : Array Value) (w : World), (callFunc fc args).run Tryd.prog w = .ok (.enter fc args) w) :
    Calls Tryd.prog 60 #[.agg (fcells f), .func (.func fc) #[] caps] w fun e w' => e = .returned (.agg (acells .u64 2 (wantSet f q 100))) ∧ Below w.heap.size w w' := by
  have hWs : inB f.W 1 10 = true := by simp only [okF, Bool.and_eq_true] at hok; exact hok.1.1
  have hHs : inB f.H 1 10 = true := by simp only [okF, Bool.and_eq_true] at hok; exact hok.1.2
  have HCL := Lib.hid hcl
  have HE := Lib.hid hE
  have E0 := Lib.hid he
  have HENT := Lib.hid hent
  clear hcl hE he hent
  have hdep : Fence.wide.depth.isSome = false := rfl
  have hfn : ∀ k, Fence.wide.fn k := fun _ => trivial
  refine (callsIn_wide (n := 3)).1 ?_
  refine callsIn_of_wp_marks Tryd.func60 rfl trivial ?_ rfl
  simp only [Tryd.ntmps60, List.size_toArray, List.length_cons, List.length_nil, Nat.reduceAdd, Nat.reduceSub, Array.replicate_succ, Array.replicate_zero, List.push_toArray, List.append_toArray, List.nil_append, List.cons_append]
  gi_upto_region 2 with (fail)
  rw [zero2]
  obtain ⟨W, hW, M⟩ := open3 w (fcells f) 35 #[.func (.func fc) #[] caps] 107 (acells .u64 2 (fun _ => 0)) 32
  have M3 : Mem w (W.alloc (.cells (acells .u64 2 (fun _ => 0)) 32)) [⟨w.heap.size, fcells f, 35⟩, ⟨w.heap.size + 1, #[.func (.func fc) #[] caps], 107⟩, ⟨w.heap.size + 1 + 1, acells .u64 2 (fun _ => 0), 32⟩, ⟨w.heap.size + 1 + 1 + 1, acells .u64 2 (fun _ => 0), 32⟩] := by
    have h := M.alloc (acells .u64 2 (fun _ => 0)) 32
    have hs : W.heap.size = w.heap.size + 1 + 1 + 1 := by rw [← hW]; simp
    rw [hs] at h
    exact h
  rw [hW]; clear hW M
  generalize W.alloc _ = W3 at M3 ⊢
  gi_wp2_with (first
    | (refine loadIn hfn rfl 35 _ rfl w.heap.size 0 rfl (fcells f) _ (M3.at 0 rfl).whole Tryd.underlying35 rfl (by rw [fcells_size]; exact sizeFd) ?_)
    | (gi_at_call 73; refine (callsIn_wide.2 (cellsIn_any f _)).mono ?_; rintro e w' ⟨rfl, rfl⟩))
  obtain ⟨bi, hbi⟩ : ∃ bi, bi = W3.heap.size := ⟨_, rfl⟩
  have M4 : Mem w (W3.alloc (Obj.cells (fcells f) 35)) [⟨w.heap.size, fcells f, 35⟩, ⟨w.heap.size + 1, #[.func (.func fc) #[] caps], 107⟩, ⟨w.heap.size + 1 + 1, acells .u64 2 (fun _ => 0), 32⟩, ⟨w.heap.size + 1 + 1 + 1, acells .u64 2 (wantL (f := f) q []), 32⟩, ⟨bi, fcells f, 35⟩] := by rw [hbi]; exact M3.alloc (fcells f) 35
  generalize W3.alloc _ = W4 at M4 ⊢
  rw [← hbi]
  clear hbi M3
  have hsz : w.heap.size ≤ W4.heap.size := M4.below.size
  refine wpIn_rangeFunc_ownF rfl (by omega) (gf := 88) (lb := #[.pointer (some ⟨bi, 0, none⟩)]) rfl trivial (enters_of Tryd.func88 (by kernel_rfl) rfl)
    (cells_stops 2 bi f (inB_size hWs) (inB_size hHs) W4 (M4.at 4 rfl)) (fun h k => k.trans h)
    (fun W l o o' hl ho hc _ => World.putObj_heap_other (fun e => by
      have := (M4.at 4 rfl).lt
      omega))
    (Below.refl _ _) (fun _ => rfl)
    (fun pre W => Mem w W [⟨w.heap.size, fcells f, 35⟩, ⟨w.heap.size + 1, #[.func (.func fc) #[] caps], 107⟩, ⟨w.heap.size + 1 + 1, acells .u64 2 (fun _ => 0), 32⟩, ⟨w.heap.size + 1 + 1 + 1, acells .u64 2 (wantL q pre), 32⟩, ⟨bi, fcells f, 35⟩])
    (fun _ _ _ => False)
    (fun s A B row hs hg hr => hs.grown hsz hg hr)
    (fun c s A B row hs hg hr => hs)
    M4
    (fun x => { tmps := #[.agg (fcells f), .func (.func fc) #[] caps, .pointer (some ⟨w.heap.size, 0, none⟩), .pointer (some ⟨w.heap.size + 1, 0, none⟩), .pointer (some ⟨w.heap.size + 1 + 1, 0, none⟩), .pointer (some ⟨w.heap.size + 1 + 1 + 1, 0, none⟩), .int .i64 (x.1 : Int), .agg (fcells f), .func (.func 88) #[] #[.pointer (some ⟨bi, 0, none⟩)], .int .i64 (x.1 : Int), undef, undef, undef, undef, undef, undef, undef], defers := [] }) ?assign ?body ?done ?stop
  case assign =>
    intro l x W K hK
    gi_wp2
    exact hK
  case body =>
    rintro l pre x W5 M5 _
    have hfn' : ∀ k, (Fence.wide.inRound l).fn k := fun _ => trivial
    have hdep' : (Fence.wide.inRound l).depth.isSome = false := rfl
    have hx := isCell_lt x.2
    have cf := (M5.at 1 rfl).cell (i := 0) rfl
    have hcall := HCL.out x.1 W5 x.2 (HE.out _ _ E0.out M5.below)
    cases hkv : q x.1 with
    | false =>
      rw [hkv] at hcall
      have hno : Hid (wantL q (pre ++ [x]) = wantL q pre) := Lib.hid (by rw [wantL_snoc, hkv]; rfl)
      gi_wp2_with (refine callDynIn hfn' hdep' rfl rfl rfl (#[.int .i64 (x.1 : Int)] ++ caps) (by rw [Array.toList_append]; rfl) HENT.out (.bool false) (fun w2 => Below W5.heap.size W5 w2) (by exact CallsIn.inRound l (callsIn_wide.2 hcall)) ?_; intro W6 hb6; have M6 := M5.call hb6)
      exact ⟨KeepsOthers.of_below hb6, M5.same M6 4 4 rfl rfl, by show Mem w _ _; rw [hno.out]; exact M6⟩
    | true =>
      rw [hkv] at hcall
      have hyes : Hid (wantL q (pre ++ [x]) = putC (wantL q pre) x.1) := Lib.hid (by rw [wantL_snoc, hkv]; rfl)
      gi_wp2_with (first
        | (refine callDynIn hfn' hdep' rfl rfl rfl (#[.int .i64 (x.1 : Int)] ++ caps) (by rw [Array.toList_append]; rfl) HENT.out (.bool true) (fun w2 => Below W5.heap.size W5 w2) (by exact CallsIn.inRound l (callsIn_wide.2 hcall)) ?_; intro W6 hb6; have M6 := M5.call hb6)
        | (refine loadIn hfn' rfl 32 _ rfl (w.heap.size + 1 + 1 + 1) 0 rfl (acells .u64 2 (wantL q pre)) _ (M6.at 3 rfl).whole Tryd.underlying32 rfl (by rw [acells_size]; exact sizeC) ?_)
        | (gi_at_call 54; refine (CallsIn.inRound l (callsIn_wide.2 (withCell_any (wantL q pre) x.1 hx _))).mono ?_; rintro e W7 ⟨rfl, hb7⟩; have M7 := M6.call hb7)
        | (refine storeIn hfn' rfl 32 _ _ rfl (w.heap.size + 1 + 1 + 1) 0 (acells .u64 2 (putC (wantL q pre) x.1)) rfl rfl ((M7.at 3 rfl).there 0 _ (by simp only [acells_size]; omega)) (by rw [acells_size]; exact sizeC) (acells_one _ _ _) ?_))
      have M8 := M7.cells 3 0 (acells .u64 2 (putC (wantL q pre) x.1)).toList rfl (acells .u64 2 (putC (wantL q pre) x.1)) ((M7.at 3 rfl).over (acells .u64 2 (putC (wantL q pre) x.1)) (by simp only [acells_size]))
      exact ⟨((KeepsOthers.of_below hb6).trans (KeepsOthers.of_below hb7)).trans (keeps_setCells _ _ _ _), M5.same M8 4 4 rfl rfl, by show Mem w _ _; rw [hyes.out]; exact M8⟩
  case done =>
    rintro D xs W5 hD rfl M5 hK
    rw [wantL_to f q 100] at M5
    have M6 := M5.cells 2 0 (acells .u64 2 (wantSet f q 100)).toList rfl (acells .u64 2 (wantSet f q 100)) ((M5.at 2 rfl).over (acells .u64 2 (wantSet f q 100)) (by simp only [acells_size]))
    have hK6 : (W5.setCells (w.heap.size + 1 + 1) 0 (acells .u64 2 (wantSet f q 100)).toList).heap[D]? = some (.deferred (some [])) := by
      have hne : D ≠ w.heap.size + 1 + 1 := fun e => by
        have h := M5.at 2 rfl
        rw [e] at hK
        rw [show W5.heap[w.heap.size + 1 + 1]? = _ from h] at hK
        cases hK
      rw [look_cells_other _ _ hne]; exact hK
    gi_wp2_with (first
      | (refine loadIn hfn rfl 32 _ rfl (w.heap.size + 1 + 1 + 1) 0 rfl (acells .u64 2 (wantSet f q 100)) _ (M5.at 3 rfl).whole Tryd.underlying32 rfl (by rw [acells_size]; exact sizeC) ?_)
      | (refine storeIn hfn rfl 32 _ _ rfl (w.heap.size + 1 + 1) 0 (acells .u64 2 (wantSet f q 100)) rfl rfl ((M5.at 2 rfl).there 0 _ (by simp only [acells_size]; omega)) (by rw [acells_size]; exact sizeC) (acells_one _ _ _) ?_))
    refine ⟨by simp, .inl ⟨_, _, rfl, run_takeDeferred hK6, ?_⟩⟩
    have M7 := M6.taken (o' := .deferred none) (Nat.le_trans hsz hD) hK6 rfl
    exact ⟨_, results_cell_row rfl _ _ (w.heap.size + 1 + 1) 32 _ _ _ rfl (M7.at 2 rfl) Tryd.underlying32 rfl (by rw [acells_size]; exact sizeC), rfl, M7.below⟩
  case stop =>
    rintro D c pre W5 hD _ h hK
    exact h.elim
end
section
open Go Go.RowKit

/-- Both words are words. -/
def U64 (g : Nat → Int) : Prop := ∀ i, 0 ≤ g i ∧ g i < 18446744073709551616
theorem and_bit (a : Nat) (ha : a < 18446744073709551616) : (bits .and .u64 (a : Int) 1 == 1) = decide (a % 2 = 1) := by
  have h := bits_and_u64_nat a 1 ha (by omega)
  simp only [Int.cast_ofNat_Int] at h
  rw [h, show a &&& 1 = a % 2 from Nat.and_one_is_mod a]
  by_cases h2 : a % 2 = 1 <;> simp [h2] <;> omega
theorem hasC_bit {g : Nat → Int} {k a : Nat} (hk : k < 100) (hg : g (k / 64) = (a : Int)) (ha : a < 18446744073709551616) : hasC g (k : Int) = a.testBit (k % 64) := by
  have e1 : inB (k : Int) 0 99 = true := by simp [inB]; omega
  have e2 : ((k : Int) % 64).toNat = k % 64 := by omega
  have e3 : ((a : Int) / 2 ^ (k % 64)) = ((a / 2 ^ (k % 64) : Nat) : Int) := by simp
  have e4 : (if (k : Int) < 64 then g 0 else g 1) = (a : Int) := by
    by_cases h : k < 64
    · rw [if_pos (by omega), ← hg, show k / 64 = 0 by omega]
    · rw [if_neg (by omega), ← hg, show k / 64 = 1 by omega]
  unfold hasC
  rw [e1, e4, e2, e3, and_bit _ (Nat.lt_of_le_of_lt (Nat.div_le_self _ _) ha), Nat.testBit_eq_decide_div_mod_eq, Bool.true_and]
theorem wrap_two : ∀ k : Fin 64, IntKind.u64.wrap (2 ^ k.val) = ((2 ^ k.val : Nat) : Int) := by decide +kernel
theorem two_lt (k : Nat) (hk : k < 64) : 2 ^ k < 18446744073709551616 := by
  have e : (18446744073709551616 : Nat) = 2 ^ 64 := by decide +kernel
  rw [e]; exact Nat.pow_lt_pow_right (by omega) hk
theorem withBit_nat (a k : Nat) (ha : a < 18446744073709551616) (hk : k < 64) : withBit (a : Int) k = ((a ||| 2 ^ k : Nat) : Int) := by
  unfold withBit
  rw [wrap_two ⟨k, hk⟩]
  exact bits_or_u64_nat a (2 ^ k) ha (two_lt k hk)
theorem or_lt (a k : Nat) (ha : a < 18446744073709551616) (hk : k < 64) : a ||| 2 ^ k < 18446744073709551616 := by
  have e : (18446744073709551616 : Nat) = 2 ^ 64 := by decide +kernel
  rw [e] at ha ⊢
  exact Nat.or_lt_two_pow ha (Nat.pow_lt_pow_right (by omega) hk)
theorem putC_u64 {g : Nat → Int} (hg : U64 g) (k : Nat) : U64 (putC g k) := fun i => by
  unfold putC
  by_cases e : i = k / 64
  · rw [if_pos e]
    obtain ⟨h1, h2⟩ := hg i
    obtain ⟨a, ha⟩ : ∃ a : Nat, g i = (a : Int) := ⟨(g i).toNat, by omega⟩
    have hlt : a < 18446744073709551616 := by omega
    have h64 : k % 64 < 64 := Nat.mod_lt _ (by omega)
    rw [ha, withBit_nat a _ hlt h64]
    have := or_lt a (k % 64) hlt h64
    omega
  · rw [if_neg e]; exact hg i
theorem hasC_put {g : Nat → Int} (hg : U64 g) {k j : Nat} (hj : j < 100) : hasC (putC g k) (j : Int) = (hasC g (j : Int) || decide (j = k)) := by
  obtain ⟨h1, h2⟩ := hg (j / 64)
  obtain ⟨a, ha⟩ : ∃ a : Nat, g (j / 64) = (a : Int) := ⟨(g (j / 64)).toNat, by omega⟩
  have hlt : a < 18446744073709551616 := by omega
  have h64 : k % 64 < 64 := Nat.mod_lt _ (by omega)
  rw [hasC_bit hj ha hlt]
  by_cases e : j / 64 = k / 64
  · have hp : putC g k (j / 64) = ((a ||| 2 ^ (k % 64) : Nat) : Int) := by unfold putC; rw [if_pos e, ha, withBit_nat a _ hlt h64]
    rw [hasC_bit hj hp (or_lt a _ hlt h64), Nat.testBit_or, Nat.testBit_two_pow]
    congr 1
    rw [Bool.eq_iff_iff, decide_eq_true_eq, decide_eq_true_eq]
    omega
  · have hp : putC g k (j / 64) = (a : Int) := by unfold putC; rw [if_neg e, ha]
    rw [hasC_bit hj hp hlt, decide_eq_false (show ¬ j = k by rintro rfl; exact e rfl), Bool.or_false]
theorem hasC_zero (j : Nat) (hj : j < 100) : hasC (fun _ => 0) (j : Int) = false := by
  rw [hasC_bit (g := fun _ => 0) (a := 0) hj rfl (by omega), Nat.zero_testBit]
theorem want_u64 (f : Fd) (q : Nat → Bool) : ∀ n, U64 (wantSet f q n)
  | 0 => fun _ => by simp [wantSet]
  | n + 1 => by
    cases h : (isCell f n && q n) with
    | true =>
      simp only [Bool.and_eq_true] at h
      rw [wantSet_yes h.1 h.2]; exact putC_u64 (want_u64 f q n) n
    | false => rw [wantSet_no h]; exact want_u64 f q n
/-- The wanted set has the wanted cells. -/
theorem hasC_want (f : Fd) (q : Nat → Bool) {j : Nat} (hj : j < 100) : ∀ n, hasC (wantSet f q n) (j : Int) = (decide (j < n) && (isCell f j && q j))
  | 0 => by rw [show wantSet f q 0 = fun _ => 0 from rfl, hasC_zero j hj]; simp
  | n + 1 => by
    have ih := hasC_want f q hj n
    cases h : (isCell f n && q n) with
    | true =>
      have h' := h
      simp only [Bool.and_eq_true] at h'
      rw [wantSet_yes h'.1 h'.2, hasC_put (want_u64 f q n) hj, ih]
      by_cases e : j = n
      · subst e; rw [h]; simp
      · rw [decide_eq_false e, Bool.or_false]
        congr 1
        rw [Bool.eq_iff_iff, decide_eq_true_eq, decide_eq_true_eq]; omega
    | false =>
      rw [wantSet_no h, ih]
      by_cases e : j = n
      · subst e; rw [h]; simp
      · congr 1
        rw [Bool.eq_iff_iff, decide_eq_true_eq, decide_eq_true_eq]; omega
/-- Where no cell below n is wanted, the set is empty. -/
theorem want_none (f : Fd) (q : Nat → Bool) : ∀ n, (∀ j : Nat, j < n → (isCell f j && q j) = false) → wantSet f q n = fun _ => 0
  | 0, _ => rfl
  | n + 1, h => by rw [wantSet_no (h n (by omega))]; exact want_none f q n (fun j hj => h j (by omega))
theorem want_some {f : Fd} {q : Nat → Bool} {j : Nat} (hj : j < 100) (h : (isCell f j && q j) = true) : ¬ (wantSet f q 100 0 = 0 ∧ wantSet f q 100 1 = 0) := fun e => by
  have h1 := hasC_want f q hj 100
  rw [h, decide_eq_true hj] at h1
  have h2 : hasC (wantSet f q 100) (j : Int) = hasC (fun _ => 0) (j : Int) := by unfold hasC; rw [e.1, e.2]
  rw [h2, hasC_zero j hj] at h1
  cases h1
end
section
open Go Go.RowKit

def hlist (f : Nat → Int) (k : Nat) : List Int := ((List.range k).filter (fun c : Nat => hasC f (c : Int))).map (fun c : Nat => (c : Int))
theorem hlist_hit {f : Nat → Int} {k : Nat} (h : hasC f (k : Int) = true) : hlist f (k + 1) = hlist f k ++ [(k : Int)] := by
  simp [hlist, List.range_succ, List.filter_append, h]
theorem hlist_miss {f : Nat → Int} {k : Nat} (h : hasC f (k : Int) = false) : hlist f (k + 1) = hlist f k := by
  simp [hlist, List.range_succ, List.filter_append, h]
theorem hlist_le (f : Nat → Int) (k : Nat) : (hlist f k).length ≤ k := by
  have := List.length_filter_le (fun c : Nat => hasC f (c : Int)) (List.range k)
  simpa [hlist] using this
theorem infoI64 : (Tryd.prog.info? 2).map (fun i => (i.zero, i.size, i.bytes)) = some (some (.int .i64 0), 1, 8) := by kernel_rfl
theorem list_keep {f : Nat → Int} {k n₀ : Nat} {w wr w1 : World} {v v' : Value} {o : Obj} (h : hasC f (k : Int) = true) (hn : n₀ = w.heap.size)
    (hown : wr.ownsRow n₀ 2 1 v (hlist f k).length ((hlist f k).map (Value.int .i64))) (hnx : Below n₀ w wr)
    (hown' : w1.ownsRow n₀ 2 1 v' ((hlist f k).length + 1) ((hlist f k).map (Value.int .i64) ++ [.int .i64 k])) (hgrow : (wr.alloc o).grownBy w1 v.ownBlock) :
    w1.ownsRow n₀ 2 1 v' (hlist f (k + 1)).length ((hlist f (k + 1)).map (Value.int .i64)) ∧ Below n₀ w w1 := by
  have hsz := hnx.size
  refine ⟨by rw [hlist_hit h]; simpa using hown', (hnx.alloc (by omega) o).grown hgrow (by simp; omega) (fun j hj => (hown.lt j hj).1)⟩

end
end Go.Proofs.YtaccpnpoeikaaaaDoor
