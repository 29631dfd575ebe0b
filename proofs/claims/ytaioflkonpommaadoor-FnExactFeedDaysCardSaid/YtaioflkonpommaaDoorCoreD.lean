/-
  Single cells, conversions and guarded steps in drawn regions; rows of truth values.
  Sets of cells as two words: copies, comparisons, membership.
  A number put into a set: the model's, the program's.
  The iterator over a set's numbers: its contract: all numbers, ascending.
  The cells that a closure wants: cellsWhere, by what the closure answers for each cell.
  The bits of a set: what a set has that a number is put into; the wanted set has the wanted cells.
  The list of a set, ascending, as the model makes it: a slice of its own.
-/
import Derived.Test.YtaioflkonpommaaDoorCoreB
import Derived.Test.YtaioflkonpommaaDoorCoreA
import Derived.Test.YtaioflkonpommaaDoorCoreC
import Derived.RangeFuncCalls
import Derived.Deep.DeepCutAuto
import Derived.BigRegion
import Derived.RangeFuncNested
import Derived.Lib.Hide
import Derived.Deep.QuietTactic
import Derived.BigRegionIn
import Derived.Laws.Bits64b
import Derived.Below
import Derived.OwnWalk
namespace Go.Proofs.YtaioflkonpommaaDoor
section
open Go Go.RowKit

section
variable {P : Program} {ops : Array Oper} {C : World → Prop} {l : List OpD} {Q : Act → Left → Prop} {o : Oper} {rest : List Oper} {k : Nat} {a : Act} {g : Left}
/-- A cell that is read. -/
theorem rel_cell (ty : TypeId) (x : Operand) (ho : o.op = .load ty x) (b off : Nat) (hx : a.eval x = .pointer (some ⟨b, off, none⟩)) (v : Value) (hl : l[k]? = some (dV v)) (hw : Region.wanted o (yielded ops a.tmps) = true)
    (hr : ∀ w, w.cell? ⟨b, off, none⟩ = some v → (Instr.loadAt ty (.pointer (some ⟨b, off, none⟩))).run P w = .ok v w) (hc : ∀ w, C w → w.cell? ⟨b, off, none⟩ = some v)
    (h2 : ∀ x, wpRel P ops C (DL l) Q rest (k + 1) (a.put o.dst v) (g.upd k x)) : wpRel P ops C (DL l) Q (o :: rest) k a g :=
  rel_val _ hl hw (fun w hw' => by
    unfold execOp
    simp only [ho, hx, Sem.run_bind, hr w (hc w hw'), Result.andThen_ok, Sem.run_pure]) h2
end
/-- A call of a closure that a slot holds. -/
theorem run_callDyn {P : Program} {o : Oper} {a : Act} {f : FuncId} {t : Operand} {caps : Array Value} {xs : Array Operand} {tys : Array TypeId} (ho : o.op = .call { callee := .value t, args := xs, argTypes := tys }) (ht : a.eval t = .func (.func f) #[] caps) (vs : Array Value) (hvs : xs.toList.map a.eval ++ caps.toList = vs.toList)
    (he : ∀ (args : Array Value) (w : World), (callFunc f args).run P w = .ok (.enter f args) w) (w : World) : (execOp a.eval o).run P w = .ok (.enter f vs) w := by
  obtain rfl : xs.map a.eval ++ caps = vs := Array.ext' (by rw [Array.toList_append, Array.toList_map]; exact hvs)
  unfold execOp
  simp only [ho, resolve, ht]
  simp [go_sem, invoke, he]
section
variable {P : Program} {ops : Array Oper} {C : World → Prop} {l : List OpD} {Q : Act → Left → Prop} {o : Oper} {rest : List Oper} {k : Nat} {a : Act} {g : Left}
theorem rel_callDyn (v0 : Value) (f : FuncId) (args : Array Value) (hl : l[k]? = some (dV v0)) (hw : Region.wanted o (yielded ops a.tmps) = true) {t : Operand} {caps : Array Value} {xs : Array Operand} {tys : Array TypeId} (ho : o.op = .call { callee := .value t, args := xs, argTypes := tys }) (ht : a.eval t = .func (.func f) #[] caps) (hvs : xs.toList.map a.eval ++ caps.toList = args.toList) (he : ∀ (args : Array Value) (w : World), (callFunc f args).run P w = .ok (.enter f args) w)
    (hc : ∀ w, C w → Calls P f args w (fun e w' => e = .returned v0 ∧ Below w.heap.size w w'))
    (h2 : ∀ x, wpRel P ops C (DL l) Q rest (k + 1) (a.put o.dst v0) (g.upd k x)) : wpRel P ops C (DL l) Q (o :: rest) k a g :=
  rel_step hw (goes_call f args (fun w _ => run_callDyn ho ht args hvs he w) (fun w hw' => (hc w hw').mono (fun e w' h => ⟨v0, h.1, h.2, by rw [DL_at hl]; rfl⟩))) (fun v lo hi _ ⟨w, _, h⟩ => by rw [DL_at hl] at h; cases h; exact h2 _)
end
/-- The same at a plain region's list, within a fence. -/
theorem callDynIn {F : Fence} {n : Nat} {P : Program} {ops : Array Oper} {Q : Exit → Act → World → Prop} {rest : List Oper} {op : Oper} {a : Act} {w : World} (hF : ∀ k, F.fn k) (hdep : F.depth.isSome = false) (hgd : op.guard = none) {f : FuncId} {t : Operand} {caps : Array Value} {xs : Array Operand} {tys : Array TypeId} (ho : op.op = .call { callee := .value t, args := xs, argTypes := tys }) (ht : a.eval t = .func (.func f) #[] caps) (vs : Array Value) (hvs : xs.toList.map a.eval ++ caps.toList = vs.toList)
    (he : ∀ (args : Array Value) (w : World), (callFunc f args).run P w = .ok (.enter f args) w) (v0 : Value) (R : World → Prop) (hc : CallsIn F (n - 1) P f vs w (fun e w' => e = .returned v0 ∧ R w'))
    (h : ∀ w', R w' → wpListIn F n P ops Q rest (a.put op.dst v0) w') : wpListIn F n P ops Q (op :: rest) a w := by
  have hw : Region.wanted op (yielded ops a.tmps) = true := by simp [Region.wanted, hgd]
  unfold wpListIn
  rw [if_pos hw]
  unfold Oper.wpIn
  refine ⟨fun f' _ => hF f', ?_⟩
  rw [semAt_plain F.round a.eval op (fun c e => by rw [ho] at e; cases e), run_callDyn ho ht vs hvs he w, Oper.uponIn_enter]
  refine ⟨fun h => (by rw [hdep] at h; cases h), hc.mono fun e w2 ⟨he, hr⟩ => ?_⟩
  subst he
  exact h _ hr
theorem load_i16 (b off : Nat) (n : Int) (w : World) (c : w.cell? ⟨b, off, none⟩ = some (.int .i16 n)) : (Instr.loadAt 24 (.pointer (some ⟨b, off, none⟩))).run Tryd.prog w = .ok (.int .i16 n) w := by
  simp [go_sem, c]
end
section
open Go Go.RowKit

theorem zeroC : (#[.int .u64 0, .int .u64 0] : Array Value) = acells .u64 2 (fun _ => 0) := by rfl
/-- Is the number in the set of the two words f 0, f 1? -/
def hasC (f : Nat → Int) (c : Int) : Bool := inB c 0 99 && (bits BinOp.and IntKind.u64 ((if c < 64 then f 0 else f 1) / 2 ^ (c % 64).toNat) 1 == 1)
end
section
open Go Go.RowKit

/-- A word of a set with one bit more. -/
def withBit (x : Int) (k : Nat) : Int := bits BinOp.or .u64 x (IntKind.u64.wrap (2 ^ k))
/-- A set with one number more. -/
def putC (g : Nat → Int) (k : Nat) : Nat → Int := fun i => if i = k / 64 then withBit (g i) (k % 64) else g i
theorem putC_low (g : Nat → Int) {k : Nat} (h : k < 64) : acells .u64 2 (fun i => if i = 0 then withBit (g 0) k else g i) = acells .u64 2 (putC g k) := acells_congr (fun i _ => by
  unfold putC
  rw [Nat.div_eq_of_lt h, Nat.mod_eq_of_lt h]
  by_cases e : i = 0
  · subst e; simp
  · simp [e])
theorem putC_high (g : Nat → Int) {k : Nat} (h : k < 128) (e1 : ¬ k < 64) : acells .u64 2 (fun i => if i = 1 then withBit (g 1) (k - 64) else g i) = acells .u64 2 (putC g k) := acells_congr (fun i _ => by
  unfold putC
  rw [show k / 64 = 1 by omega, show k % 64 = k - 64 by omega]
  by_cases e : i = 1
  · subst e; simp
  · simp [e])
theorem zero2 : (#[.int .u64 0, .int .u64 0] : Array Value) = acells .u64 2 (fun _ => 0) := rfl
end
section
open Go Go.RowKit Go.Shelf

/-- A number of the set g. -/
abbrev NumOf (g : Nat → Int) : Type := { c : Nat // c < 100 ∧ hasC g (c : Int) = true }
/-- The set's numbers below n, ascending. -/
def numsTo (g : Nat → Int) : Nat → List (NumOf g)
  | 0 => []
  | n + 1 => if h : n < 100 ∧ hasC g (n : Int) = true then numsTo g n ++ [⟨n, h⟩] else numsTo g n
theorem numsTo_yes {g : Nat → Int} {n : Nat} (h : n < 100 ∧ hasC g (n : Int) = true) : numsTo g (n + 1) = numsTo g n ++ [⟨n, h⟩] := by simp [numsTo, h]
theorem numsTo_no {g : Nat → Int} {n : Nat} (h : hasC g (n : Int) = false) : numsTo g (n + 1) = numsTo g n := by simp [numsTo, h]
theorem numsTo_length (g : Nat → Int) : ∀ n, (numsTo g n).length ≤ n
  | 0 => Nat.le_refl _
  | n + 1 => by
    have := numsTo_length g n
    unfold numsTo; split
    · simp; omega
    · omega
end
section
open Go Go.RowKit Go.Shelf
attribute [local go_sem] Oper.semAt_some

/-- The cells below n that are wanted. -/
def wantSet (f : Fd) (q : Nat → Bool) : Nat → Nat → Int
  | 0 => fun _ => 0
  | n + 1 => if (isCell f n && q n) = true then putC (wantSet f q n) n else wantSet f q n
theorem wantSet_yes {f : Fd} {q : Nat → Bool} {n : Nat} (h1 : isCell f n = true) (h2 : q n = true) : wantSet f q (n + 1) = putC (wantSet f q n) n := by
  rw [wantSet, h1, h2]; rfl
theorem wantSet_no {f : Fd} {q : Nat → Bool} {n : Nat} (h : (isCell f n && q n) = false) : wantSet f q (n + 1) = wantSet f q n := by
  rw [wantSet, h]; rfl
/-- The wanted cells of a list. -/
def wantL {f : Fd} (q : Nat → Bool) (l : List (CellOf f)) : Nat → Int := l.foldl (fun g c => if q c.1 = true then putC g c.1 else g) (fun _ => 0)
theorem wantL_snoc {f : Fd} (q : Nat → Bool) (l : List (CellOf f)) (c : CellOf f) : wantL q (l ++ [c]) = if q c.1 = true then putC (wantL q l) c.1 else wantL q l := by simp only [wantL, List.foldl_append, List.foldl_cons, List.foldl_nil]
theorem wantL_to (f : Fd) (q : Nat → Bool) : ∀ n, wantL q (cellsTo f n) = wantSet f q n
  | 0 => rfl
  | n + 1 => by
    have ih := wantL_to f q n
    cases h : isCell f n with
    | true =>
      rw [cellsTo_yes h, wantL_snoc, ih, wantSet, h, Bool.true_and]
    | false => rw [cellsTo_no h, ih, wantSet_no (by rw [h]; rfl)]
end
section
open Go Go.RowKit

/-- Both words are words. -/
def U64 (g : Nat → Int) : Prop := ∀ i, 0 ≤ g i ∧ g i < 18446744073709551616
theorem and_bit (a : Nat) (ha : a < 18446744073709551616) : (bits .and .u64 (a : Int) 1 == 1) = decide (a % 2 = 1) := by
  have h := bits_and_u64_nat a 1 ha (by omega)
  simp only [Int.cast_ofNat_Int] at h
  rw [h, show a &&& 1 = a % 2 from Nat.and_one_is_mod a]
  by_cases h2 : a % 2 = 1 <;> simp [h2] <;> omega
theorem hasC_bit {g : Nat → Int} {k a : Nat} (hk : k < 100) (hg : g (k / 64) = (a : Int)) (ha : a < 18446744073709551616) : hasC g (k : Int) = a.testBit (k % 64) := by
  have e1 : inB (k : Int) 0 99 = true := by simp [inB]; omega
  have e2 : ((k : Int) % 64).toNat = k % 64 := by omega
  have e3 : ((a : Int) / 2 ^ (k % 64)) = ((a / 2 ^ (k % 64) : Nat) : Int) := by simp
  have e4 : (if (k : Int) < 64 then g 0 else g 1) = (a : Int) := by
    by_cases h : k < 64
    · rw [if_pos (by omega), ← hg, show k / 64 = 0 by omega]
    · rw [if_neg (by omega), ← hg, show k / 64 = 1 by omega]
  unfold hasC
  rw [e1, e4, e2, e3, and_bit _ (Nat.lt_of_le_of_lt (Nat.div_le_self _ _) ha), Nat.testBit_eq_decide_div_mod_eq, Bool.true_and]
theorem wrap_two : ∀ k : Fin 64, IntKind.u64.wrap (2 ^ k.val) = ((2 ^ k.val : Nat) : Int) := by decide +kernel
theorem two_lt (k : Nat) (hk : k < 64) : 2 ^ k < 18446744073709551616 := by
  have e : (18446744073709551616 : Nat) = 2 ^ 64 := by decide +kernel
  rw [e]; exact Nat.pow_lt_pow_right (by omega) hk
theorem withBit_nat (a k : Nat) (ha : a < 18446744073709551616) (hk : k < 64) : withBit (a : Int) k = ((a ||| 2 ^ k : Nat) : Int) := by
  unfold withBit
  rw [wrap_two ⟨k, hk⟩]
  exact bits_or_u64_nat a (2 ^ k) ha (two_lt k hk)
theorem or_lt (a k : Nat) (ha : a < 18446744073709551616) (hk : k < 64) : a ||| 2 ^ k < 18446744073709551616 := by
  have e : (18446744073709551616 : Nat) = 2 ^ 64 := by decide +kernel
  rw [e] at ha ⊢
  exact Nat.or_lt_two_pow ha (Nat.pow_lt_pow_right (by omega) hk)
theorem putC_u64 {g : Nat → Int} (hg : U64 g) (k : Nat) : U64 (putC g k) := fun i => by
  unfold putC
  by_cases e : i = k / 64
  · rw [if_pos e]
    obtain ⟨h1, h2⟩ := hg i
    obtain ⟨a, ha⟩ : ∃ a : Nat, g i = (a : Int) := ⟨(g i).toNat, by omega⟩
    have hlt : a < 18446744073709551616 := by omega
    have h64 : k % 64 < 64 := Nat.mod_lt _ (by omega)
    rw [ha, withBit_nat a _ hlt h64]
    have := or_lt a (k % 64) hlt h64
    omega
  · rw [if_neg e]; exact hg i
theorem hasC_put {g : Nat → Int} (hg : U64 g) {k j : Nat} (hj : j < 100) : hasC (putC g k) (j : Int) = (hasC g (j : Int) || decide (j = k)) := by
  obtain ⟨h1, h2⟩ := hg (j / 64)
  obtain ⟨a, ha⟩ : ∃ a : Nat, g (j / 64) = (a : Int) := ⟨(g (j / 64)).toNat, by omega⟩
  have hlt : a < 18446744073709551616 := by omega
  have h64 : k % 64 < 64 := Nat.mod_lt _ (by omega)
  rw [hasC_bit hj ha hlt]
  by_cases e : j / 64 = k / 64
  · have hp : putC g k (j / 64) = ((a ||| 2 ^ (k % 64) : Nat) : Int) := by unfold putC; rw [if_pos e, ha, withBit_nat a _ hlt h64]
    rw [hasC_bit hj hp (or_lt a _ hlt h64), Nat.testBit_or, Nat.testBit_two_pow]
    congr 1
    rw [Bool.eq_iff_iff, decide_eq_true_eq, decide_eq_true_eq]
    omega
  · have hp : putC g k (j / 64) = (a : Int) := by unfold putC; rw [if_neg e, ha]
    rw [hasC_bit hj hp hlt, decide_eq_false (show ¬ j = k by rintro rfl; exact e rfl), Bool.or_false]
theorem hasC_zero (j : Nat) (hj : j < 100) : hasC (fun _ => 0) (j : Int) = false := by
  rw [hasC_bit (g := fun _ => 0) (a := 0) hj rfl (by omega), Nat.zero_testBit]
theorem want_u64 (f : Fd) (q : Nat → Bool) : ∀ n, U64 (wantSet f q n)
  | 0 => fun _ => by simp [wantSet]
  | n + 1 => by
    cases h : (isCell f n && q n) with
    | true =>
      simp only [Bool.and_eq_true] at h
      rw [wantSet_yes h.1 h.2]; exact putC_u64 (want_u64 f q n) n
    | false => rw [wantSet_no h]; exact want_u64 f q n
/-- The wanted set has the wanted cells. -/
theorem hasC_want (f : Fd) (q : Nat → Bool) {j : Nat} (hj : j < 100) : ∀ n, hasC (wantSet f q n) (j : Int) = (decide (j < n) && (isCell f j && q j))
  | 0 => by rw [show wantSet f q 0 = fun _ => 0 from rfl, hasC_zero j hj]; simp
  | n + 1 => by
    have ih := hasC_want f q hj n
    cases h : (isCell f n && q n) with
    | true =>
      have h' := h
      simp only [Bool.and_eq_true] at h'
      rw [wantSet_yes h'.1 h'.2, hasC_put (want_u64 f q n) hj, ih]
      by_cases e : j = n
      · subst e; rw [h]; simp
      · rw [decide_eq_false e, Bool.or_false]
        congr 1
        rw [Bool.eq_iff_iff, decide_eq_true_eq, decide_eq_true_eq]; omega
    | false =>
      rw [wantSet_no h, ih]
      by_cases e : j = n
      · subst e; rw [h]; simp
      · congr 1
        rw [Bool.eq_iff_iff, decide_eq_true_eq, decide_eq_true_eq]; omega
/-- Where no cell below n is wanted, the set is empty. -/
theorem want_none (f : Fd) (q : Nat → Bool) : ∀ n, (∀ j : Nat, j < n → (isCell f j && q j) = false) → wantSet f q n = fun _ => 0
  | 0, _ => rfl
  | n + 1, h => by rw [wantSet_no (h n (by omega))]; exact want_none f q n (fun j hj => h j (by omega))
theorem want_some {f : Fd} {q : Nat → Bool} {j : Nat} (hj : j < 100) (h : (isCell f j && q j) = true) : ¬ (wantSet f q 100 0 = 0 ∧ wantSet f q 100 1 = 0) := fun e => by
  have h1 := hasC_want f q hj 100
  rw [h, decide_eq_true hj] at h1
  have h2 : hasC (wantSet f q 100) (j : Int) = hasC (fun _ => 0) (j : Int) := by unfold hasC; rw [e.1, e.2]
  rw [h2, hasC_zero j hj] at h1
  cases h1
end
section
open Go Go.RowKit

def hlist (f : Nat → Int) (k : Nat) : List Int := ((List.range k).filter (fun c : Nat => hasC f (c : Int))).map (fun c : Nat => (c : Int))
theorem hlist_hit {f : Nat → Int} {k : Nat} (h : hasC f (k : Int) = true) : hlist f (k + 1) = hlist f k ++ [(k : Int)] := by
  simp [hlist, List.range_succ, List.filter_append, h]
theorem hlist_miss {f : Nat → Int} {k : Nat} (h : hasC f (k : Int) = false) : hlist f (k + 1) = hlist f k := by
  simp [hlist, List.range_succ, List.filter_append, h]
theorem hlist_le (f : Nat → Int) (k : Nat) : (hlist f k).length ≤ k := by
  have := List.length_filter_le (fun c : Nat => hasC f (c : Int)) (List.range k)
  simpa [hlist] using this
theorem infoI64 : (Tryd.prog.info? 2).map (fun i => (i.zero, i.size, i.bytes)) = some (some (.int .i64 0), 1, 8) := by kernel_rfl
theorem list_keep {f : Nat → Int} {k n₀ : Nat} {w wr w1 : World} {v v' : Value} {o : Obj} (h : hasC f (k : Int) = true) (hn : n₀ = w.heap.size)
    (hown : wr.ownsRow n₀ 2 1 v (hlist f k).length ((hlist f k).map (Value.int .i64))) (hnx : Below n₀ w wr)
    (hown' : w1.ownsRow n₀ 2 1 v' ((hlist f k).length + 1) ((hlist f k).map (Value.int .i64) ++ [.int .i64 k])) (hgrow : (wr.alloc o).grownBy w1 v.ownBlock) :
    w1.ownsRow n₀ 2 1 v' (hlist f (k + 1)).length ((hlist f (k + 1)).map (Value.int .i64)) ∧ Below n₀ w w1 := by
  have hsz := hnx.size
  refine ⟨by rw [hlist_hit h]; simpa using hown', (hnx.alloc (by omega) o).grown hgrow (by simp; omega) (fun j hj => (hown.lt j hj).1)⟩

end
end Go.Proofs.YtaioflkonpommaaDoor
