/-
  Two fields, compared by ==: equal just where all 202 cells are.
-/
import Derived.Test.YtpplakfmdjajiaaDoorFld
import Derived.DeepKeys
import Derived.KernelRfl
namespace Go.Proofs.YtpplakfmdjajiaaDoor
open Go Go.RowKit

theorem mapM_some {α β : Type} {g : α → Option β} {h : α → β} : ∀ (l : List α), (∀ x ∈ l, g x = some (h x)) → l.mapM g = some (l.map h)
  | [], _ => rfl
  | x :: l, hx => by
    rw [List.mapM_cons, hx x (by simp), mapM_some l (fun y hy => hx y (by simp [hy]))]; rfl

def flits (f : Fd) : List Lit := [.int .i8 f.W, .int .i8 f.H] ++ ((List.range 100).map fun i => Lit.int .u8 (f.K i)) ++ ((List.range 100).map fun i => Lit.int .i16 (f.S i))

theorem toList_drop_take (cs : Array Value) (i : Nat) (v : Value) (h : cs[i]? = some v) : (cs.toList.drop i).take 1 = [v] := by
  have h' : cs.toList[i]? = some v := by simpa using h
  obtain ⟨hi, hv⟩ := List.getElem?_eq_some_iff.1 h'
  rw [List.drop_eq_getElem_cons hi, hv]; rfl
theorem acells_toList (k : IntKind) (n : Nat) (f : Nat → Int) : (acells k n f).toList = (List.range n).map fun i => Value.int k (f i) := by simp [acells]

theorem keyLits_ints {P : Program} {t e : TypeId} {q : IntKind} {n : Nat} (d : Nat) (ht : P.underlying t = some (.array n e)) (he : P.underlying e = some (.int q)) (hce : P.cellsOf e = 1) (hct : P.cellsOf t = n)
    (f : Nat → Int) (hwf : ∀ i, i < n → (Lit.int q (f i)).wf = true) : P.keyLits (d + 2) t (acells q n f).toList = some ((List.range n).map fun i => Lit.int q (f i)) := by
  unfold Program.keyLits
  rw [ht]
  simp only [Array.length_toList, acells_size, hct, if_true, hce, Nat.mul_one]
  rw [mapM_some (h := fun i => [Lit.int q (f i)])]
  · simp only [Option.map_some, Option.some.injEq]
    induction List.range n with
    | nil => rfl
    | cons x l ih => simp [ih]
  · intro i hi
    have hi' : i < n := by simpa using hi
    rw [toList_drop_take _ _ _ (acells_get _ _ _ _ hi')]
    unfold Program.keyLits
    rw [he]
    simp [hwf i hi']
theorem fcells_toList (f : Fd) : (fcells f).toList = [.int .i8 f.W, .int .i8 f.H] ++ (acells .u8 100 f.K).toList ++ (acells .i16 100 f.S).toList := by
  apply List.ext_getElem?
  intro j
  rw [Array.getElem?_toList]
  by_cases e0 : j = 0
  · subst e0; rw [fcells_0]; rfl
  · by_cases e1 : j = 1
    · subst e1; rw [fcells_1]; rfl
    · by_cases e2 : j < 102
      · obtain ⟨i, rfl⟩ : ∃ i, j = 2 + i := ⟨j - 2, by omega⟩
        rw [fcells_K f i (by omega), List.getElem?_append_left (by simp [acells_size] <;> omega), List.getElem?_append_right (by simp)]
        simp only [List.length_cons, List.length_nil, show 2 + i - (0 + 1 + 1) = i by omega, Array.getElem?_toList]
        rw [acells_get _ _ _ _ (by omega)]
      · by_cases e3 : j < 202
        · obtain ⟨i, rfl⟩ : ∃ i, j = 102 + i := ⟨j - 102, by omega⟩
          rw [fcells_S f i (by omega), List.getElem?_append_right (by simp [acells_size] <;> omega)]
          simp only [List.length_append, List.length_cons, List.length_nil, Array.length_toList, acells_size, show 102 + i - (0 + 1 + 1 + 100) = i by omega, Array.getElem?_toList]
          rw [acells_get _ _ _ _ (by omega)]
        · rw [Array.getElem?_eq_none (by rw [fcells_size]; omega), List.getElem?_eq_none (by simp [acells_size] <;> omega)]
theorem flits_iff {f g : Fd} : flits f = flits g ↔ fcells f = fcells g := by
  constructor
  · intro h
    have e : ∀ x : Fd, (flits x).map (fun | Lit.int k n => Value.int k n | _ => undef) = (fcells x).toList := fun x => by
      rw [fcells_toList]; simp [flits, acells_toList, Function.comp_def]
    have := congrArg (List.map (fun | Lit.int k n => Value.int k n | _ => undef)) h
    rw [e, e] at this
    exact Array.toList_inj.1 this
  · intro h
    have e : ∀ x : Fd, (fcells x).toList.map (fun | Value.int k n => Lit.int k n | _ => Lit.bool false) = flits x := fun x => by
      rw [fcells_toList]; simp [flits, acells_toList, Function.comp_def]
    rw [← e f, ← e g, h]

theorem keyLits_field (d : Nat) (f : Fd) (hf : f.Wf) : Tryd.prog.keyLits (d + 3) 32 (fcells f).toList = some (flits f) := by
  have hu : Tryd.prog.underlying 32 = some (.struct (Tryd.prog.fieldsOf 32)) := by kernel_rfl
  have hfs : (Tryd.prog.fieldsOf 32).toList.map (fun x => (x.name, x.type, x.offset)) = [("Wide", 22, 0), ("High", 22, 1), ("Kinds", 23, 2), ("Seeds", 25, 102)] := by kernel_rfl
  have hc : Tryd.prog.cellsOf 32 = 202 := by kernel_rfl
  have hc8 : Tryd.prog.cellsOf 22 = 1 := by kernel_rfl
  have hcK : Tryd.prog.cellsOf 23 = 100 := by kernel_rfl
  have hcS : Tryd.prog.cellsOf 25 = 100 := by kernel_rfl
  have hcu : Tryd.prog.cellsOf 5 = 1 := by kernel_rfl
  have hci : Tryd.prog.cellsOf 24 = 1 := by kernel_rfl
  unfold Program.keyLits
  rw [hu]
  generalize Tryd.prog.fieldsOf 32 = fs at hfs ⊢
  obtain ⟨l⟩ := fs
  have hl : l.length = 4 := by have := congrArg List.length hfs; simpa using this
  match l, hl, hfs with
  | [a, b, c, e], _, hfs =>
    simp only [List.map_cons, List.map_nil, List.cons.injEq, Prod.mk.injEq, and_true] at hfs
    obtain ⟨⟨n0, t0, o0⟩, ⟨n1, t1, o1⟩, ⟨n2, t2, o2⟩, ⟨n3, t3, o3⟩⟩ := hfs
    simp only [Array.length_toList, fcells_size, hc, List.all_toArray, List.all_cons, List.all_nil, n0, n1, n2, n3, t0, t1, t2, t3, o0, o1, o2, o3, List.mapM_cons, List.mapM_nil, hc8, hcK, hcS]
    have k0 : Tryd.prog.keyLits (d + 2) 22 (((fcells f).toList.drop 0).take 1) = some [.int .i8 f.W] := by
      rw [toList_drop_take _ _ _ (fcells_0 f)]; unfold Program.keyLits; rw [Tryd.underlying22]; simp [lit_i8 hf.W]
    have k1 : Tryd.prog.keyLits (d + 2) 22 (((fcells f).toList.drop 1).take 1) = some [.int .i8 f.H] := by
      rw [toList_drop_take _ _ _ (fcells_1 f)]; unfold Program.keyLits; rw [Tryd.underlying22]; simp [lit_i8 hf.H]
    have k2 : Tryd.prog.keyLits (d + 2) 23 (((fcells f).toList.drop 2).take 100) = some ((List.range 100).map fun i => Lit.int .u8 (f.K i)) := by
      rw [← keyLits_ints d Tryd.underlying23 Tryd.underlying5 hcu hcK f.K (fun i hi => lit_u8 (hf.K i hi)), fcells_toList, List.append_assoc, List.drop_left' (by simp), List.take_left' (by simp [acells_size])]
    have k3 : Tryd.prog.keyLits (d + 2) 25 (((fcells f).toList.drop 102).take 100) = some ((List.range 100).map fun i => Lit.int .i16 (f.S i)) := by
      rw [← keyLits_ints d Tryd.underlying25 Tryd.underlying24 hci hcS f.S (fun i hi => lit_i16 (hf.S i hi)), fcells_toList, List.drop_left' (by simp [acells_size]), List.take_of_length_le (by simp [acells_size])]
    rw [k0, k1, k2, k3]
    simp [flits]

theorem formed_field (f : Fd) : (Value.agg (fcells f)).formed Tryd.prog 32 = true := by
  have hc : Tryd.prog.cellsOf 32 = 202 := by kernel_rfl
  have hu : Tryd.prog.underlying 32 = some (.struct (Tryd.prog.fieldsOf 32)) := by kernel_rfl
  unfold Value.formed
  simp [hu, hc, fcells_size]

/-- Equal or not, as a Bool. -/
def feq (f g : Fd) : Bool := f.W == g.W && f.H == g.H && allTo 100 (fun i => f.K i == g.K i && f.S i == g.S i)
theorem feq_iff {f g : Fd} : feq f g = true ↔ fcells f = fcells g := by
  constructor
  · intro h
    simp only [feq, Bool.and_eq_true, beq_iff_eq, allTo_iff] at h
    exact fcells_congr h.1.1 h.1.2 (fun i hi => (h.2 i hi).1) (fun i hi => (h.2 i hi).2)
  · intro h
    obtain ⟨h1, h2, h3, h4⟩ := fcells_inj h
    simp only [feq, Bool.and_eq_true, beq_iff_eq, allTo_iff]
    exact ⟨⟨h1, h2⟩, fun i hi => ⟨h3 i hi, h4 i hi⟩⟩

set_option maxRecDepth 100000 in
theorem run_equalIn_field (f g : Fd) (hf : f.Wf) (hg : g.Wf) (w : World) : (Op.equalIn 10000 32 (.agg (fcells f)) (.agg (fcells g))).run Tryd.prog w = .ok (feq f g) w := by
  have hk : Tryd.prog.keyTypeAt 5 32 = true := by kernel_rfl
  obtain ⟨r, hr, hiff⟩ := run_equalIn_deep 9995 5 32 hk w _ _ (.agg (fcells f)) (.agg (fcells g)) (flits f) (flits g) (formed_field f) (formed_field g) (keyLits_field 0 f hf) (keyLits_field 0 g hg)
  have e : r = feq f g := by rw [Bool.eq_iff_iff, feq_iff, hiff, flits_iff]
  subst e
  exact hr
end Go.Proofs.YtpplakfmdjajiaaDoor
