/-
  The program's ValidField answers as the model's test.
-/
import Derived.Test.YtmiafnmenolemaaDoorIter
import Derived.Test.YtmiafnmenolemaaDoorIn
import Derived.Test.YtmiafnmenolemaaDoorEq
import Derived.Sort.CutIn
namespace Go.Proofs.YtmiafnmenolemaaDoor
open Go Go.RowKit Go.Shelf
attribute [local go_sem] Oper.semAt_some

theorem inB_size {n : Int} (h : inB n 1 10 = true) : 0 ≤ n ∧ n ≤ 10 := by have := inB_iff.1 h; omega

/-- What is outside of some cells: those are struck. -/
def outside (f : Fd) (l : List (CellOf f)) : Fd := l.foldl (fun g c => (g.setK c.1 0).setS c.1 0) f
theorem outside_snoc (f : Fd) (l : List (CellOf f)) (c : CellOf f) : outside f (l ++ [c]) = ((outside f l).setK c.1 0).setS c.1 0 := by simp [outside, List.foldl_append]
theorem outside_W {f : Fd} (l : List (CellOf f)) : (outside f l).W = f.W ∧ (outside f l).H = f.H := by
  suffices ∀ (l : List (CellOf f)) (g : Fd), (l.foldl (fun g c => (g.setK c.1 0).setS c.1 0) g).W = g.W ∧ (l.foldl (fun g c => (g.setK c.1 0).setS c.1 0) g).H = g.H from this l f
  intro l
  induction l with
  | nil => intro g; exact ⟨rfl, rfl⟩
  | cons c l ih => intro g; exact ih _
theorem outside_at {f : Fd} (n k : Nat) : (outside f (cellsTo f n)).K k = (if k < n ∧ isCell f k = true then 0 else f.K k) ∧ (outside f (cellsTo f n)).S k = (if k < n ∧ isCell f k = true then 0 else f.S k) := by
  induction n with
  | zero => simp [cellsTo, outside]
  | succ n ih =>
    by_cases h : isCell f n = true
    · rw [cellsTo_yes h, outside_snoc]
      simp only [Fd.setS, Fd.setK]
      by_cases e : k = n
      · subst e; simp [h]
      · have e1 : (k < n + 1 ∧ isCell f k = true) ↔ (k < n ∧ isCell f k = true) := by constructor <;> (rintro ⟨a, b⟩; exact ⟨by omega, b⟩)
        rw [if_neg e, if_neg e, ih.1, ih.2]
        simp only [e1, and_self]
    · have h' : isCell f n = false := by simpa using h
      rw [cellsTo_no h', ih.1, ih.2]
      by_cases e : k = n
      · subst e; simp [h']
      · have e1 : (k < n + 1 ∧ isCell f k = true) ↔ (k < n ∧ isCell f k = true) := by constructor <;> (rintro ⟨a, b⟩; exact ⟨by omega, b⟩)
        simp only [e1, and_self]
/-- The field of these sizes without kinds and seeds. -/
def Fd.bare (a b : Int) : Fd := ⟨a, b, fun _ => 0, fun _ => 0⟩
theorem spotOk_cell {f : Fd} {k : Nat} (h : isCell f k = true) : cellOk f k = spotOk (f.K k) (f.S k) := by
  unfold cellOk spotOk
  rw [h]
  by_cases h0 : f.K k = 0
  · rw [if_pos h0, h0]; simp [inB]
  · rw [if_neg h0]
    have h0' : (f.K k == 0) = false := by simpa using h0
    rw [h0']
    by_cases h1 : f.S k = 0
    · simp [h1, inB]
    · have h1' : (f.S k == 0) = false := by simpa using h1
      simp [h1']
theorem okF_of_outside {f : Fd} (h1 : inB f.W 1 10 = true) (h2 : inB f.H 1 10 = true) (hall : ∀ c ∈ cellsTo f 100, spotOk (f.K c.1) (f.S c.1) = true) : feq (outside f (cellsTo f 100)) (Fd.bare f.W f.H) = okF f := by
  unfold okF feq
  rw [h1, h2, (outside_W (cellsTo f 100)).1, (outside_W (cellsTo f 100)).2]
  simp only [Fd.bare, beq_self_eq_true, Bool.true_and]
  refine allTo_congr (fun k hk => ?_)
  rw [(outside_at 100 k).1, (outside_at 100 k).2]
  by_cases h : isCell f k = true
  · rw [if_pos ⟨hk, h⟩, if_pos ⟨hk, h⟩, spotOk_cell h, hall ⟨k, h⟩ (cellsTo_mem.2 hk)]; rfl
  · have h' : isCell f k = false := by simpa using h
    rw [if_neg (fun c => h c.2), if_neg (fun c => h c.2)]
    unfold cellOk
    rw [h']
    by_cases h0 : f.K k = 0
    · by_cases h3 : f.S k = 0
      · simp [h0, h3, inB]
      · have h3' : (f.S k == 0) = false := by simpa using h3
        simp [h3']
    · have h0' : (f.K k == 0) = false := by simpa using h0
      simp [h0']
theorem okF_bad {f : Fd} {k : Nat} (h : isCell f k = true) (hb : spotOk (f.K k) (f.S k) = false) : okF f = false := by
  unfold okF
  rw [allTo_false (isCell_lt h) (by rw [spotOk_cell h, hb])]
  simp

theorem outside_wf {f : Fd} (hf : f.Wf) (l : List (CellOf f)) : (outside f l).Wf := by
  suffices ∀ (l : List (CellOf f)) (g : Fd), g.Wf → (l.foldl (fun g c => (g.setK c.1 0).setS c.1 0) g).Wf from this l f hf
  intro l
  induction l with
  | nil => intro g hg; exact hg
  | cons c l ih =>
    intro g hg
    refine ih _ ⟨hg.W, hg.H, fun i hi => ?_, fun i hi => ?_⟩
    · simp only [Fd.setS, Fd.setK]; split
      · omega
      · exact hg.K i hi
    · simp only [Fd.setS, Fd.setK]; split
      · omega
      · exact hg.S i hi
theorem wide_round (l k : Nat) : (Fence.wide.inRound l).fn k := trivial

end Go.Proofs.YtmiafnmenolemaaDoor
