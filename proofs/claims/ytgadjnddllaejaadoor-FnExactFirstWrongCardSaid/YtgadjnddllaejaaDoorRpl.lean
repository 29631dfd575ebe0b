/-
  A diary from a field on: what is behind it, what is summed, where it is wrong first.
-/
import Derived.Test.YtgadjnddllaejaaDoorEntAp
import Derived.Test.YtgadjnddllaejaaDoorApplied
import Derived.Test.YtgadjnddllaejaaDoorAny
import Derived.Test.YtgadjnddllaejaaDoorCoreB
namespace Go.Proofs.YtgadjnddllaejaaDoor
open Go Go.RowKit

section
variable {P : Program} {ops : Array Oper} {Q : Exit → Act → World → Prop} {K : Act → World → Prop} {a : Act} {w w' : World} {i : Nat} {o : Oper}
theorem any_call7 (v0 : Value) (d : Nat) (f : FuncId) (args : Array Value) (ho : ops[i]? = some o) (hd : o.dst = some d) (hg : o.guard = none) {xs : Array Operand} {tys : Array TypeId} (hop : o.op = .call { callee := .value (.func f), args := xs, argTypes := tys }) (hvs : xs.toList.map a.eval = args.toList)
    (he : ∀ (args : Array Value) (w : World), (callFunc f args).run P w = .ok (.enter f args) w) (hc : Calls P f args w (fun e w' => e = .returned v0 ∧ Below w.heap.size w w')) (h : ∀ w', Below w.heap.size w w' → K (a.put (some d) v0) w') : wpOp P ops Q i K a w := by
  have hw : Region.wanted o (yielded ops a.tmps) = true := by simp [Region.wanted, hg]
  unfold wpOp
  rw [ho]
  simp only [hw, if_true]
  refine .inl ?_
  unfold Oper.wp
  rw [run_callOp hop args hvs he w, Oper.upon_enter]
  refine hc.mono ?_
  rintro e w2 ⟨rfl, hb⟩
  rw [← hd] at h
  exact h w2 hb
end
theorem three_of7 {j k l : Nat} {p : Nat → Prop} (h : p j) (h2 : p k) (h3 : p l) : ∀ i ∈ [j, k, l], p i := fun i hi => by
  simp only [List.mem_cons, List.mem_nil_iff, or_false] at hi
  rcases hi with rfl | rfl | rfl
  · exact h
  · exact h2
  · exact h3
theorem results_row2_tmp {P : Program} {fn : Func} {p q u : Tmp} {ty ti : TypeId} (h : fn.results = #[.cell p ty, .cell q ti, .tmp u]) (tmps : Array Value) (w : World) (g1 g2 : Nat) (t1 t2 : TypeId) (c1 c2 : Array Value) (d e : TypeDesc)
    (hp : tmps.getD p undef = .pointer (some ⟨g1, 0, none⟩)) (hq : tmps.getD q undef = .pointer (some ⟨g2, 0, none⟩)) (h1 : Blk w g1 c1 t1) (h2 : Blk w g2 c2 t2)
    (hu : P.underlying ty = some d) (hd : (match d with | .struct _ | .array _ _ => true | _ => false) = true) (hi1 : (P.info? ty).map (·.size) = some c1.size)
    (hu2 : P.underlying ti = some e) (he : (match e with | .struct _ | .array _ _ => true | _ => false) = true) (hi2 : (P.info? ti).map (·.size) = some c2.size) :
    (results fn tmps).run P w = .ok (.tuple #[.agg c1, .agg c2, tmps.getD u undef]) w := by
  have hp' : tmps[p]?.getD undef = .pointer (some ⟨g1, 0, none⟩) := by simpa using hp
  have hq' : tmps[q]?.getD undef = .pointer (some ⟨g2, 0, none⟩) := by simpa using hq
  simp [results, h, hp', hq', asAddr, Result.andThen, run_loadVar_row w g1 t1 ty c1 (0, 0) d h1 hu hd hi1, run_loadVar_row w g2 t2 ti c2 (0, 0) e h2 hu2 he hi2]
theorem results_row2_tmp2 {P : Program} {fn : Func} {p q u v : Tmp} {ty ti : TypeId} (h : fn.results = #[.cell p ty, .cell q ti, .tmp u, .tmp v]) (tmps : Array Value) (w : World) (g1 g2 : Nat) (t1 t2 : TypeId) (c1 c2 : Array Value) (d e : TypeDesc)
    (hp : tmps.getD p undef = .pointer (some ⟨g1, 0, none⟩)) (hq : tmps.getD q undef = .pointer (some ⟨g2, 0, none⟩)) (h1 : Blk w g1 c1 t1) (h2 : Blk w g2 c2 t2)
    (hu : P.underlying ty = some d) (hd : (match d with | .struct _ | .array _ _ => true | _ => false) = true) (hi1 : (P.info? ty).map (·.size) = some c1.size)
    (hu2 : P.underlying ti = some e) (he : (match e with | .struct _ | .array _ _ => true | _ => false) = true) (hi2 : (P.info? ti).map (·.size) = some c2.size) :
    (results fn tmps).run P w = .ok (.tuple #[.agg c1, .agg c2, tmps.getD u undef, tmps.getD v undef]) w := by
  have hp' : tmps[p]?.getD undef = .pointer (some ⟨g1, 0, none⟩) := by simpa using hp
  have hq' : tmps[q]?.getD undef = .pointer (some ⟨g2, 0, none⟩) := by simpa using hq
  simp [results, h, hp', hq', asAddr, Result.andThen, run_loadVar_row w g1 t1 ty c1 (0, 0) d h1 hu hd hi1, run_loadVar_row w g2 t2 ti c2 (0, 0) e h2 hu2 he hi2]

theorem ap_zero {f : Fd} {a : Nat → Int} (hok : okF f = true) (h : apCode f a = 0) : ∃ n : Nat, n < 100 ∧ a 1 = (n : Int) ∧ isCell f (n : Int) = true ∧ f.K n = 0 ∧ 0 ≤ apSeeds f a ∧ apSeeds f a ≤ 1000 ∧ 0 ≤ a 0 ∧ a 0 ≤ 3 := by
  unfold apCode at h
  cases he : (entOk a && isCell f (a 1)) with
  | false => rw [he] at h; simp at h
  | true =>
    rw [he, if_pos rfl] at h
    simp only [Bool.and_eq_true] at he
    obtain ⟨he1, he2⟩ := he
    obtain ⟨e0, e1, e2⟩ := entOk_iff.1 he1
    obtain ⟨n, hn, hc⟩ := cell_nat he2
    have hcn : isCell f (n : Int) = true := by rw [← hc]; exact he2
    have hS : 0 ≤ f.S n ∧ f.S n ≤ 1000 := by
      have h9 := hok
      simp only [okF, Bool.and_eq_true] at h9
      have := allTo_iff.1 h9.2 n hn
      simp only [cellOk, Bool.and_eq_true, inB_iff] at this
      exact this.1.1.2
    have ht : (a 1).toNat = n := by rw [hc]; rfl
    rw [ht] at h
    have hsd : apSeeds f a = if a 0 = 0 then f.S n + a 2 else f.S n - a 2 := by unfold apSeeds; rw [ht]
    by_cases hk : f.K n ≠ 0
    · rw [if_pos hk] at h; omega
    · rw [if_neg hk] at h
      refine ⟨n, hn, hc, hcn, by omega, ?_⟩
      by_cases h0 : a 0 = 0
      · rw [if_pos h0] at h
        rw [hsd, if_pos h0]
        cases hb : inB (f.S n + a 2) 0 1000 with
        | false => rw [hb] at h; simp at h
        | true => have := inB_iff.1 hb; omega
      · rw [if_neg h0] at h
        rw [hsd, if_neg h0]
        by_cases hl : f.S n < a 2
        · rw [if_pos hl] at h; omega
        · omega
theorem ap_keeps {f : Fd} {a : Nat → Int} (hf : f.Wf) (hok : okF f = true) : okF (apField f a) = true ∧ (apField f a).Wf := by
  unfold apField
  by_cases h : apCode f a = 0
  · rw [if_pos h]
    obtain ⟨n, hn, hc, hcn, hk, hs1, hs2, _⟩ := ap_zero hok h
    have ht : (a 1).toNat = n := by rw [hc]; rfl
    rw [ht]
    generalize apSeeds f a = s at hs1 hs2
    refine ⟨?_, ⟨hf.W, hf.H, hf.K, fun i hi => ?_⟩⟩
    · simp only [okF, Bool.and_eq_true] at hok ⊢
      refine ⟨hok.1, allTo_iff.2 (fun i hi => ?_)⟩
      have h9 := allTo_iff.1 hok.2 i hi
      have e1 : (f.setS n s).K i = f.K i := rfl
      have e3 : isCell (f.setS n s) (i : Int) = isCell f (i : Int) := rfl
      have e2 : (f.setS n s).S i = if i = n then s else f.S i := rfl
      unfold cellOk at h9 ⊢
      rw [e1, e2, e3]
      by_cases hin : i = n
      · subst hin
        rw [if_pos rfl, hk, hcn]
        simp only [Bool.and_eq_true, Bool.or_eq_true, inB_iff]
        exact ⟨⟨⟨⟨by omega, by omega⟩, hs1, hs2⟩, .inl rfl⟩, .inl trivial⟩
      · rw [if_neg hin]; exact h9
    · show -32768 ≤ (if i = n then s else f.S i) ∧ (if i = n then s else f.S i) ≤ 32767
      split
      · omega
      · exact hf.S i hi
  · rw [if_neg h]; exact ⟨hok, hf⟩
/-- The field behind the first entries. -/
def rpF (f : Fd) (F : Nat → Nat → Int) : Nat → Fd
  | 0 => f
  | k + 1 => apField (rpF f F k) (F k)
def rpC (f : Fd) (F : Nat → Nat → Int) (k : Nat) : Int := apCode (rpF f F k) (F k)
/-- How many of the first entries go, one behind the other. -/
def rpW (f : Fd) (F : Nat → Nat → Int) : Nat → Nat
  | 0 => 0
  | k + 1 => if rpW f F k = k ∧ rpC f F k = 0 then k + 1 else rpW f F k
/-- The sums of the first entries. -/
def rpS (F : Nat → Nat → Int) : Nat → Nat → Int
  | 0 => fun _ => 0
  | k + 1 => fun j => if j = (F k 0).toNat then rpS F k (F k 0).toNat + F k 2 else rpS F k j
theorem rpF_ok {f : Fd} {F : Nat → Nat → Int} (hf : f.Wf) (hok : okF f = true) : ∀ k, okF (rpF f F k) = true ∧ (rpF f F k).Wf
  | 0 => ⟨hok, hf⟩
  | k + 1 => by obtain ⟨h1, h2⟩ := rpF_ok hf hok (F := F) k; exact ap_keeps h2 h1
theorem rpW_le (f : Fd) (F : Nat → Nat → Int) : ∀ k, rpW f F k ≤ k
  | 0 => Nat.le_refl _
  | k + 1 => by unfold rpW; split; exact Nat.le_refl _; exact Nat.le_succ_of_le (rpW_le f F k)
theorem rpW_go {f : Fd} {F : Nat → Nat → Int} {k : Nat} (h : rpW f F k = k) (hc : rpC f F k = 0) : rpW f F (k + 1) = k + 1 := by unfold rpW; rw [if_pos ⟨h, hc⟩]
theorem rpW_stop {f : Fd} {F : Nat → Nat → Int} {k : Nat} (h : rpW f F k = k) (hc : rpC f F k ≠ 0) : ∀ m, rpW f F (k + 1 + m) = k
  | 0 => by show rpW f F (k + 1) = k; unfold rpW; rw [if_neg (fun x => hc x.2), h]
  | m + 1 => by
    show rpW f F (k + 1 + m + 1) = k
    have ih := rpW_stop h hc m
    unfold rpW
    rw [if_neg (fun x => by have := x.1; rw [ih] at this; omega), ih]
theorem rpS_le {F : Nat → Nat → Int} {n : Nat} (hF : ∀ i, i < n → WfEn (F i)) : ∀ k, k ≤ n → ∀ j, -32768 * (k : Int) ≤ rpS F k j ∧ rpS F k j ≤ 32767 * (k : Int)
  | 0, _, j => ⟨by simp [rpS], by simp [rpS]⟩
  | k + 1, hk, j => by
    have h1 := rpS_le hF k (by omega) (F k 0).toNat
    have h2 := rpS_le hF k (by omega) j
    have h3 := (hF k (by omega)).b2
    show -32768 * ((k + 1 : Nat) : Int) ≤ (if j = (F k 0).toNat then rpS F k (F k 0).toNat + F k 2 else rpS F k j) ∧ (if j = (F k 0).toNat then rpS F k (F k 0).toNat + F k 2 else rpS F k j) ≤ 32767 * ((k + 1 : Nat) : Int)
    split <;> omega
theorem wrap_i64R {x : Int} (h1 : -9223372036854775808 ≤ x) (h2 : x ≤ 9223372036854775807) : IntKind.i64.wrap x = x := by rw [IntKind.wrap_i64]; omega
theorem rpF_W (f : Fd) (F : Nat → Nat → Int) : ∀ k, (rpF f F k).W = f.W ∧ (rpF f F k).H = f.H
  | 0 => ⟨rfl, rfl⟩
  | k + 1 => by obtain ⟨h1, h2⟩ := rpF_W f F k; obtain ⟨h3, h4⟩ := apField_W (rpF f F k) (F k); exact ⟨h3.trans h1, h4.trans h2⟩
/-- What a diary gives from a valid field on. -/
def roCode (f : Fd) (n : Nat) (F : Nat → Nat → Int) : Int := if rpW f F n = n then 0 else rpC f F (rpW f F n)
def roAt (f : Fd) (n : Nat) (F : Nat → Nat → Int) : Int := if rpW f F n = n then -1 else (rpW f F n : Int)
def roF (f : Fd) (n : Nat) (F : Nat → Nat → Int) : Fd := if rpW f F n = n then rpF f F n else Fd.zero
def roS (f : Fd) (n : Nat) (F : Nat → Nat → Int) : Nat → Int := if rpW f F n = n then rpS F n else fun _ => 0
def rdCode (f : Fd) (n : Nat) (F : Nat → Nat → Int) : Int := if okF f then (if 100 < n then 3 else roCode f n F) else 1
def rdF (f : Fd) (n : Nat) (F : Nat → Nat → Int) : Fd := if okF f = true ∧ n ≤ 100 then roF f n F else Fd.zero
def rdS (f : Fd) (n : Nat) (F : Nat → Nat → Int) : Nat → Int := if okF f = true ∧ n ≤ 100 then roS f n F else fun _ => 0
theorem ro_bad {f : Fd} {n : Nat} {F : Nat → Nat → Int} {k : Nat} (hk : k < n) (h : rpW f F k = k) (hc : rpC f F k ≠ 0) : roCode f n F = rpC f F k ∧ roAt f n F = (k : Int) ∧ fcells (roF f n F) = Tryd.zeroCells30 ∧ roS f n F = fun _ => 0 := by
  have h1 : rpW f F n = k := by have := rpW_stop h hc (n - (k + 1)); rwa [show k + 1 + (n - (k + 1)) = n by omega] at this
  have h2 : ¬ rpW f F n = n := by omega
  unfold roCode roAt roF roS
  rw [if_neg h2, if_neg h2, if_neg h2, if_neg h2, h1, zeroFd]
  exact ⟨rfl, rfl, rfl, rfl⟩
theorem ro_good {f : Fd} {n : Nat} {F : Nat → Nat → Int} (h : rpW f F n = n) : roCode f n F = 0 ∧ roAt f n F = -1 ∧ roF f n F = rpF f F n ∧ roS f n F = rpS F n := by
  unfold roCode roAt roF roS
  rw [if_pos h, if_pos h, if_pos h, if_pos h]
  exact ⟨rfl, rfl, rfl, rfl⟩
theorem rdF_size (f : Fd) (hf : f.Wf) (n : Nat) (F : Nat → Nat → Int) : (-128 ≤ (rdF f n F).W ∧ (rdF f n F).W ≤ 127) ∧ (-128 ≤ (rdF f n F).H ∧ (rdF f n F).H ≤ 127) := by
  have h1 := hf.W
  have h2 := hf.H
  obtain ⟨e1, e2⟩ := rpF_W f F n
  unfold rdF
  split
  · unfold roF
    split
    · rw [e1, e2]; exact ⟨h1, h2⟩
    · exact ⟨⟨by decide, by decide⟩, ⟨by decide, by decide⟩⟩
  · exact ⟨⟨by decide, by decide⟩, ⟨by decide, by decide⟩⟩
theorem rp_codes (f : Fd) (F : Nat → Nat → Int) (k : Nat) : rpC f F k = 0 ∨ ∃ c : Nat, 1 ≤ c ∧ c ≤ 8 ∧ rpC f F k = c := ap_codes _ _
theorem size4 : (Tryd.prog.info? 31).map (·.size) = some 4 := by kernel_rfl
theorem zero4 : (acells .i64 4 (fun _ => 0)) = #[.int .i64 0, .int .i64 0, .int .i64 0, .int .i64 0] := rfl
theorem idxA4 {ev : Operand → Value} {o : Oper} {x ix : Operand} (ho : o.op = .indexAddr 31 x ix) (b q : Nat) (hx : ev x = .pointer (some ⟨b, 0, none⟩)) (hix : ev ix = .int .i8 (q : Int)) (hq : q < 4) (w : World) : (execOp ev o).run Tryd.prog w = .ok (.value (.pointer (some ⟨b, q, none⟩))) w := by
  unfold execOp
  simp only [ho, hx, hix]
  rcases (show q = 0 ∨ q = 1 ∨ q = 2 ∨ q = 3 by omega) with rfl | rfl | rfl | rfl <;> simp [go_sem]
theorem load_i8R (b off : Nat) (n : Int) (w : World) (c : w.cell? ⟨b, off, none⟩ = some (.int .i8 n)) : (Instr.loadAt 22 (.pointer (some ⟨b, off, none⟩))).run Tryd.prog w = .ok (.int .i8 n) w := by
  simp [go_sem, c]
theorem load_i16R (b off : Nat) (n : Int) (w : World) (c : w.cell? ⟨b, off, none⟩ = some (.int .i16 n)) : (Instr.loadAt 24 (.pointer (some ⟨b, off, none⟩))).run Tryd.prog w = .ok (.int .i16 n) w := by
  simp [go_sem, c]
theorem load_i64R (b off : Nat) (n : Int) (w : World) (c : w.cell? ⟨b, off, none⟩ = some (.int .i64 n)) : (Instr.loadAt 2 (.pointer (some ⟨b, off, none⟩))).run Tryd.prog w = .ok (.int .i64 n) w := by
  simp [go_sem, c]
end Go.Proofs.YtgadjnddllaejaaDoor
