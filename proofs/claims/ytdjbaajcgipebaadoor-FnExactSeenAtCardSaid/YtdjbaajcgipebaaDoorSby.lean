/-
  What is seen on a beat, as a set: the model's, the program's.
-/
import Derived.Test.YtdjbaajcgipebaaDoorRing
import Derived.Test.YtdjbaajcgipebaaDoorSetB
import Derived.Test.YtdjbaajcgipebaaDoorSets2
import Derived.Test.YtdjbaajcgipebaaDoorSeen
import Derived.Test.YtdjbaajcgipebaaDoorWatch
import Derived.Shelf.RegionOpen
import Derived.Test.YtdjbaajcgipebaaDoorQStore
namespace Go.Proofs.YtdjbaajcgipebaaDoor
open Go Go.RowKit

theorem hasC_or {f g : Nat → Int} (hf : U64 f) (hg : U64 g) {j : Nat} (hj : j < 100) : hasC (joinC .or f g) (j : Int) = (hasC f (j : Int) || hasC g (j : Int)) := by
  obtain ⟨a, b, ea, eb, ha, hb, h, _⟩ := or_nat hf hg (j / 64)
  have hab : a ||| b < 18446744073709551616 := by rw [p64] at ha hb ⊢; exact or_bound ha hb
  rw [hasC_bit hj h hab, hasC_bit hj ea ha, hasC_bit hj eb hb, Nat.testBit_or]
theorem want_N100 (f : Fd) (q : Nat → Bool) : ∀ n, n ≤ 100 → N100 (wantSet f q n)
  | 0, _ => zero_N100
  | n + 1, h => by
    cases e : (isCell f n && q n) with
    | true =>
      have e' := e
      simp only [Bool.and_eq_true] at e'
      rw [wantSet_yes e'.1 e'.2]; exact putC_N100 (want_N100 f q n (by omega)) (by omega)
    | false => rw [wantSet_no e]; exact want_N100 f q n (by omega)
theorem bit_no {F : Nat → Int} (hF : N100 F) {i k x : Nat} (hi : i < 2) (e : F i = (x : Int)) (hk : ¬ 64 * i + k < 100 ∨ ¬ k < 64) : x.testBit k = false := by
  have h2 := (hF.1 i).2
  rcases Nat.lt_or_ge i 1 with h0 | h0
  · obtain rfl : i = 0 := by omega
    have hx : x < 2 ^ 64 := by rw [← p64]; omega
    exact Nat.testBit_lt_two_pow (Nat.lt_of_lt_of_le hx (Nat.pow_le_pow_right (by omega) (by omega)))
  · obtain rfl : i = 1 := by omega
    have h3 := hF.2
    have hx : x < 2 ^ 36 := by rw [← p36]; omega
    exact Nat.testBit_lt_two_pow (Nat.lt_of_lt_of_le hx (Nat.pow_le_pow_right (by omega) (by omega)))
/-- Two sets that have the same numbers are the same. -/
theorem set_ext {f g : Nat → Int} (hf : N100 f) (hg : N100 g) (h : ∀ j : Nat, j < 100 → hasC f (j : Int) = hasC g (j : Int)) : acells .u64 2 f = acells .u64 2 g := acells_congr (fun i hi => by
  obtain ⟨a, ea, ha⟩ := nat_of hf.1 i
  obtain ⟨b, eb, hb⟩ := nat_of hg.1 i
  rw [ea, eb]
  have e : a = b := Nat.eq_of_testBit_eq (fun k => by
    by_cases hk : 64 * i + k < 100 ∧ k < 64
    · have h1 := h (64 * i + k) hk.1
      rw [hasC_bit (a := a) hk.1 (by rw [show (64 * i + k) / 64 = i by omega]; exact ea) ha, hasC_bit (a := b) hk.1 (by rw [show (64 * i + k) / 64 = i by omega]; exact eb) hb, show (64 * i + k) % 64 = k by omega] at h1
      exact h1
    · have hk' : ¬ 64 * i + k < 100 ∨ ¬ k < 64 := by omega
      rw [bit_no hf hi ea hk', bit_no hg hi eb hk'])
  rw [e])
/-- The cells that are near one of the first of a list. -/
def sawSet (f : Fd) (g : Nat → Int) (s : Int) : Nat → Nat → Int
  | 0 => fun _ => 0
  | i + 1 => joinC .or (sawSet f g s i) (wantSet f (ringQ (g i).toNat s) 100)
theorem saw_N100 (f : Fd) (g : Nat → Int) (s : Int) : ∀ i, N100 (sawSet f g s i)
  | 0 => zero_N100
  | i + 1 => or_N100 (saw_N100 f g s i) (want_N100 _ _ _ (Nat.le_refl _))
theorem hasC_saw (f : Fd) (g : Nat → Int) (s : Int) {j : Nat} (hj : j < 100) : ∀ i, (hasC (sawSet f g s i) (j : Int) = true ↔ isCell f j = true ∧ ∃ t, t < i ∧ sq ((g t).toNat : Int) j ≤ s)
  | 0 => by
    rw [show sawSet f g s 0 = fun _ => 0 from rfl, hasC_zero j hj]
    constructor
    · intro h; cases h
    · rintro ⟨_, t, ht, _⟩; omega
  | i + 1 => by
    have ih := hasC_saw f g s hj i
    rw [sawSet, hasC_or (saw_N100 f g s i).1 (want_u64 _ _ _) hj, Bool.or_eq_true, ih, hasC_want _ _ hj, decide_eq_true hj, Bool.true_and, Bool.and_eq_true]
    unfold ringQ
    rw [decide_eq_true_eq]
    constructor
    · rintro (⟨h1, t, ht, h2⟩ | ⟨h1, h2⟩)
      · exact ⟨h1, t, by omega, h2⟩
      · exact ⟨h1, i, by omega, h2⟩
    · rintro ⟨h1, t, ht, h2⟩
      by_cases e : t = i
      · subst e; exact .inr ⟨h1, h2⟩
      · exact .inl ⟨h1, t, by omega, h2⟩
theorem minL_pos (n : Nat) (g : Nat → Int) (s : Int) (c W : Nat) : ∀ k, (0 < (minL n g s c W k).length ↔ ∃ t, t < k ∧ seenB n g s c W t = true)
  | 0 => by
    rw [show minL n g s c W 0 = [] from rfl]
    constructor
    · intro h; simp at h
    · rintro ⟨t, ht, _⟩; omega
  | k + 1 => by
    have ih := minL_pos n g s c W k
    cases e : seenB n g s c W k with
    | true =>
      rw [minL_yes e]
      constructor
      · intro _; exact ⟨k, by omega, e⟩
      · intro _; simp
    | false =>
      rw [minL_no e, ih]
      constructor
      · rintro ⟨t, ht, h⟩; exact ⟨t, by omega, h⟩
      · rintro ⟨t, ht, h⟩
        by_cases et : t = k
        · subst et; rw [e] at h; cases h
        · exact ⟨t, by omega, h⟩
theorem seenB_one {n : Nat} {g : Nat → Int} {s : Int} {c t : Nat} (ht : t < n) : seenB n g s c 1 t = decide (sq (g t) c ≤ s) := by
  unfold seenB
  rw [seenW, seenW, Bool.false_or, Nat.zero_mul, Nat.zero_div, Nat.add_zero, Nat.mod_eq_of_lt ht]
/-- Whether a cell is seen at all. -/
def sawQ (n : Nat) (g : Nat → Int) (s : Int) (k : Nat) : Bool := decide (0 < (minL n g s k 1 n).length)
theorem sawQ_iff {n : Nat} {g : Nat → Int} {s : Int} {k : Nat} : sawQ n g s k = true ↔ ∃ t, t < n ∧ sq (g t) k ≤ s := by
  unfold sawQ
  rw [decide_eq_true_eq]
  have h := minL_pos n g s k 1 n
  constructor
  · intro h0
    obtain ⟨t, ht, h1⟩ := h.1 (by omega)
    rw [seenB_one ht, decide_eq_true_eq] at h1
    exact ⟨t, ht, h1⟩
  · rintro ⟨t, ht, h1⟩
    have := h.2 ⟨t, ht, by rw [seenB_one ht]; exact decide_eq_true h1⟩
    omega
theorem saw_eq {f : Fd} {n : Nat} {g : Nat → Int} {s : Int} (hg : CellsG n g) : acells .u64 2 (sawSet f g s n) = acells .u64 2 (wantSet f (sawQ n g s) 100) :=
  set_ext (saw_N100 f g s n) (want_N100 _ _ _ (Nat.le_refl _)) (fun j hj => by
    rw [Bool.eq_iff_iff, hasC_saw f g s hj, hasC_want _ _ hj, decide_eq_true hj, Bool.true_and, Bool.and_eq_true, sawQ_iff]
    have e : ∀ t, t < n → ((g t).toNat : Int) = g t := fun t ht => by have := hg t ht; omega
    constructor
    · rintro ⟨h1, t, ht, h2⟩; rw [e t ht] at h2; exact ⟨h1, t, ht, h2⟩
    · rintro ⟨h1, t, ht, h2⟩; refine ⟨h1, t, ht, ?_⟩; rw [e t ht]; exact h2)
def seenSet (f : Fd) (n : Nat) (g : Nat → Int) (s : Int) : Nat → Int := if beatAsk f n g s true = 0 then wantSet f (sawQ n g s) 100 else fun _ => 0
section
variable {P : Program} {ops : Array Oper} {C : World → Prop} {l : List OpD} {Q : Act → Left → Prop} {o : Oper} {rest : List Oper} {k : Nat} {a : Act} {g : Left}
/-- The address of an element of a list. -/
theorem rel_indexB (t e : TypeId) (x ix : Operand) (ho : o.op = .indexAddr t x ix) (b off n c sz i : Nat) (hx : a.eval x = .slice (some ⟨b, off, none⟩) n c) (hix : a.eval ix = .int .i64 i) (hi : i < n) (hu : P.underlying t = some (.slice e)) (hsz : (P.info? e).map (·.size) = some sz)
    (hl : l[k]? = some (dV (.pointer (some ⟨b, off + i * sz, none⟩)))) (hw : Region.wanted o (yielded ops a.tmps) = true)
    (h2 : ∀ x, wpRel P ops C (DL l) Q rest (k + 1) (a.put o.dst (.pointer (some ⟨b, off + i * sz, none⟩))) (g.upd k x)) : wpRel P ops C (DL l) Q (o :: rest) k a g :=
  rel_val _ hl hw (fun w _ => by
    have he : P.elem t = e := by simp [Program.elem, hu]
    cases hie : P.info? e with
    | none => simp [hie] at hsz
    | some ie =>
      simp only [hie, Option.map_some, Option.some.injEq] at hsz
      have hr : (Instr.indexAt t (.slice (some ⟨b, off, none⟩) n c) (.int .i64 (i : Int))).run P w = .ok (.pointer (some ⟨b, off + i * sz, none⟩)) w := by
        rw [run_indexAt_slice _ _ _ _ _ _ _ (by rw [he]; exact hu), if_pos ⟨by omega, by omega⟩, he]
        simp [sizeOf, typeInfo, hie, hsz, Addr.add]
      unfold execOp
      simp only [ho, hx, hix, Sem.run_bind, hr, Result.andThen_ok, Sem.run_pure]) h2
end
theorem unionS (f g : Nat → Int) (hf : N100 f) (hg : N100 g) (w : World) : Calls Tryd.prog 49 #[.agg (acells .u64 2 f), .agg (acells .u64 2 g)] w fun e w' => e = .returned (.agg (acells .u64 2 (joinC .or f g))) ∧ Below w.heap.size w w' := by
  rw [← opC_join (or_N100 hf hg)]; exact specUnionOf f g w
theorem load_i16B (b off : Nat) (n : Int) (w : World) (c : w.cell? ⟨b, off, none⟩ = some (.int .i16 n)) : (Instr.loadAt 24 (.pointer (some ⟨b, off, none⟩))).run Tryd.prog w = .ok (.int .i16 n) w := by
  simp [go_sem, c]
end Go.Proofs.YtdjbaajcgipebaaDoor
