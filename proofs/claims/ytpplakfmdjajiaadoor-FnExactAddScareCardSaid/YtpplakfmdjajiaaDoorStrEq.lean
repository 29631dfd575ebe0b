/-
  Elements of slices in drawn regions; structs of integers compared.
-/
import Derived.Test.YtpplakfmdjajiaaDoorStr
import Derived.Test.YtpplakfmdjajiaaDoorRegM
import Derived.DeepKeys3
namespace Go.Proofs.YtpplakfmdjajiaaDoor
open Go Go.RowKit

section
variable {P : Program} {ops : Array Oper} {C : World → Prop} {l : List OpD} {Q : Act → Left → Prop} {o : Oper} {rest : List Oper} {k : Nat} {a : Act} {g : Left}
/-- The address of an element. -/
theorem rel_index (t e : TypeId) (x ix : Operand) (ho : o.op = .indexAddr t x ix) (b off n c sz i : Nat) (hx : a.eval x = .slice (some ⟨b, off, none⟩) n c) (hix : a.eval ix = .int .i64 i) (hi : i < n) (hu : P.underlying t = some (.slice e)) (hsz : (P.info? e).map (·.size) = some sz)
    (hl : l[k]? = some (dV (.pointer (some ⟨b, off + i * sz, none⟩)))) (hw : Region.wanted o (yielded ops a.tmps) = true)
    (h2 : ∀ x, wpRel P ops C (DL l) Q rest (k + 1) (a.put o.dst (.pointer (some ⟨b, off + i * sz, none⟩))) (g.upd k x)) : wpRel P ops C (DL l) Q (o :: rest) k a g :=
  rel_val _ hl hw (fun w _ => by
    have he : P.elem t = e := by simp [Program.elem, hu]
    cases hie : P.info? e with
    | none => simp [hie] at hsz
    | some ie =>
      simp only [hie, Option.map_some, Option.some.injEq] at hsz
      have hr : (Instr.indexAt t (.slice (some ⟨b, off, none⟩) n c) (.int .i64 (i : Int))).run P w = .ok (.pointer (some ⟨b, off + i * sz, none⟩)) w := by
        rw [run_indexAt_slice _ _ _ _ _ _ _ (by rw [he]; exact hu), if_pos ⟨by omega, by omega⟩, he]
        simp [sizeOf, typeInfo, hie, hsz, Addr.add]
      unfold execOp
      simp only [ho, hx, hix, Sem.run_bind, hr, Result.andThen_ok, Sem.run_pure]) h2
/-- Two structs compared, for being other. -/
theorem rel_neq (t t' : TypeId) (x y : Operand) (ho : o.op = .binOp .neq t x y t') (xs ys : Array Value) (hx : a.eval x = .agg xs) (hy : a.eval y = .agg ys) (r : Bool) (hl : l[k]? = some (dV (.bool (!r)))) (hw : Region.wanted o (yielded ops a.tmps) = true)
    (hm : P.eqGuardType P.depth t = false) (hr : ∀ w, (Op.equalIn 10000 t (.agg xs) (.agg ys)).run P w = .ok r w)
    (h2 : ∀ x, wpRel P ops C (DL l) Q rest (k + 1) (a.put o.dst (.bool (!r))) (g.upd k x)) : wpRel P ops C (DL l) Q (o :: rest) k a g :=
  rel_val _ hl hw (fun w _ => by
    unfold execOp
    simp only [ho, hx, hy, Sem.run_bind, run_eqGuard_agg w .neq t x y xs ys hm, Result.andThen_ok, run_neq_struct w t xs ys, hr w, Sem.run_pure]) h2
end

/-- Two elements are equal, as a Bool. -/
def seq (s : Nat) (f g : Nat → Int) : Bool := allTo s (fun j => f j == g j)
theorem seq_iff {ks : List IntKind} {F G : Nat → Nat → Int} {i m : Nat} : seq ks.length (F i) (G m) = true ↔ srow ks F i = srow ks G m := by
  simp only [seq, allTo_iff, beq_iff_eq]
  constructor
  · intro h
    unfold srow
    congr 1
    refine List.map_congr_left (fun j hj => ?_)
    unfold sget; rw [h j (List.mem_range.1 hj)]
  · intro h j hj
    have := congrArg (fun a => a[j]?) h
    simp only [srow_get ks F i j hj, srow_get ks G m j hj] at this
    have h2 := Option.some.inj this
    unfold sget at h2
    injection h2
/-- A struct of integer fields, one cell each. -/
def plainFields (P : Program) (fs : Array Field) (ks : List IntKind) : Bool :=
  (List.range ks.length).all (fun j => match fs[j]? with | some f => (f.offset == j) && (f.name != "_") && (match P.underlying f.type with | some (.int q) => q == ks.getD j .i64 | _ => false) && (P.cellsOf f.type == 1) | none => false) && fs.size == ks.length
theorem keyLits_str {P : Program} {t : TypeId} {fs : Array Field} {ks : List IntKind} (F : Nat → Nat → Int) (i : Nat) (hu : P.underlying t = some (.struct fs)) (hp : plainFields P fs ks = true) (hct : P.cellsOf t = ks.length)
    (hwf : ∀ j, j < ks.length → (Lit.int (ks.getD j .i64) (F i j)).wf = true) (d : Nat) : P.keyLits (d + 2) t (srow ks F i).toList = some ((List.range ks.length).map fun j => Lit.int (ks.getD j .i64) (F i j)) := by
  simp only [plainFields, Bool.and_eq_true, beq_iff_eq, List.all_eq_true, List.mem_range] at hp
  obtain ⟨hp, hsz⟩ := hp
  have hf : ∀ j, (hj : j < ks.length) → ∃ f q, fs[j]? = some f ∧ f.offset = j ∧ f.name ≠ "_" ∧ P.underlying f.type = some (.int q) ∧ q = ks.getD j .i64 ∧ P.cellsOf f.type = 1 := fun j hj => by
    have h := hp j hj
    cases hfj : fs[j]? with
    | none => simp [hfj] at h
    | some f =>
      simp only [hfj, Bool.and_eq_true, beq_iff_eq, bne_iff_ne] at h
      cases hq : P.underlying f.type with
      | none => simp [hq] at h
      | some dd =>
        cases dd with
        | int q => simp only [hq] at h; exact ⟨f, q, rfl, h.1.1.1, h.1.1.2, hq, by simpa using h.1.2, h.2⟩
        | _ => simp [hq] at h
  have hall : fs.all (·.name != "_") = true := by
    rw [Array.all_eq_true]
    intro j hj
    obtain ⟨f, q, h1, _, h3, _⟩ := hf j (by omega)
    rw [Array.getElem?_eq_getElem hj] at h1
    have := Option.some.inj h1
    rw [this]; simpa using h3
  have hm : (fs.toList.mapM fun f => P.keyLits (d + 1) f.type (((srow ks F i).toList.drop f.offset).take (P.cellsOf f.type))) = some ((List.range ks.length).map fun j => [Lit.int (ks.getD j .i64) (F i j)]) := by
    have e : fs.toList = (List.range ks.length).map (fun j => (fs[j]?).getD default) := by
      apply List.ext_getElem?
      intro j
      by_cases hj : j < ks.length
      · obtain ⟨f, q, h1, _⟩ := hf j hj
        rw [Array.getElem?_toList, h1]; simp [hj, h1]
      · rw [List.getElem?_eq_none (by simp; omega), List.getElem?_eq_none (by simp; omega)]
    rw [e]
    have key : ∀ (l : List Nat), (∀ j ∈ l, j < ks.length) → ((l.map (fun j => (fs[j]?).getD default)).mapM fun f => P.keyLits (d + 1) f.type (((srow ks F i).toList.drop f.offset).take (P.cellsOf f.type))) = some (l.map fun j => [Lit.int (ks.getD j .i64) (F i j)]) := by
      intro l
      induction l with
      | nil => intro _; rfl
      | cons j l ih =>
        intro hl
        have hj := hl j (List.mem_cons_self ..)
        obtain ⟨f, q, h1, h2, h3, h4, h5, h6⟩ := hf j hj
        have hd : ((srow ks F i).toList.drop f.offset).take (P.cellsOf f.type) = [sget ks F i j] := by
          rw [h2, h6]
          have := srow_get ks F i j hj
          rw [← Array.getElem?_toList] at this
          obtain ⟨hlt, he⟩ := List.getElem?_eq_some_iff.1 this
          rw [List.drop_eq_getElem_cons hlt, he]; rfl
        rw [List.map_cons, List.mapM_cons, h1, Option.getD_some, hd]
        have hk : P.keyLits (d + 1) f.type [sget ks F i j] = some [Lit.int (ks.getD j .i64) (F i j)] := by
          unfold sget Program.keyLits
          subst h5
          simp only [h4]
          rw [if_pos ⟨trivial, hwf j hj⟩]
        rw [hk, ih (fun x hx => hl x (List.mem_cons_of_mem _ hx))]
        rfl
    exact key _ (fun j hj => List.mem_range.1 hj)
  unfold Program.keyLits
  simp only [hu]
  rw [if_pos ⟨by rw [hct, Array.length_toList, srow_size], hall⟩, hm]
  simp only [Option.map_some, Option.some.injEq]
  induction List.range ks.length with
  | nil => rfl
  | cons x l ih => rw [List.map_cons, List.flatten_cons, ih]; rfl
theorem run_equalIn_str {P : Program} {t : TypeId} {fs : Array Field} {ks : List IntKind} {m : Nat} (F G : Nat → Nat → Int) (i p : Nat) (hu : P.underlying t = some (.struct fs)) (hp : plainFields P fs ks = true) (hct : P.cellsOf t = ks.length) (hk : P.keyTypeAt m t = true) (hm : m ≤ 10000)
    (hF : ∀ j, j < ks.length → (Lit.int (ks.getD j .i64) (F i j)).wf = true) (hG : ∀ j, j < ks.length → (Lit.int (ks.getD j .i64) (G p j)).wf = true) (w : World) :
    (Op.equalIn 10000 t (.agg (srow ks F i)) (.agg (srow ks G p))).run P w = .ok (seq ks.length (F i) (G p)) w := by
  have fm : ∀ F i, (Value.agg (srow ks F i)).formed P t = true := fun F i => by simp only [Value.formed, hu, srow_size, hct, beq_self_eq_true]
  obtain ⟨r, hr, hiff⟩ := run_equalIn_deep (10000 - m) m t hk w _ _ (.agg (srow ks F i)) (.agg (srow ks G p)) _ _ (fm F i) (fm G p) (keyLits_str F i hu hp hct hF 0) (keyLits_str G p hu hp hct hG 0)
  rw [show 10000 - m + m = 10000 by omega] at hr
  have e : r = seq ks.length (F i) (G p) := by
    rw [Bool.eq_iff_iff, hiff, seq_iff]
    constructor
    · intro h
      have h2 : (List.range ks.length).map (fun j => sget ks F i j) = (List.range ks.length).map (fun j => sget ks G p j) := by
        have := congrArg (List.map Lit.toCell) h
        simpa [List.map_map, Function.comp_def, Lit.toCell, sget] using this
      unfold srow; rw [h2]
    · intro h
      have := seq_iff.2 h
      simp only [seq, allTo_iff, beq_iff_eq] at this
      exact List.map_congr_left (fun j hj => by rw [this j (List.mem_range.1 hj)])
  subst e
  exact hr
end Go.Proofs.YtpplakfmdjajiaaDoor
