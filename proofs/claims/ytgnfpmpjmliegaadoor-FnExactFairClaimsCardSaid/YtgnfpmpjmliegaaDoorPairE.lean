/-
  Where two fields make no pair: the program's error and its code, in one theorem.
-/
import Derived.Test.YtgnfpmpjmliegaaDoorPairR
import Derived.Test.YtgnfpmpjmliegaaDoorWhere
namespace Go.Proofs.YtgnfpmpjmliegaaDoor
open Go Go.RowKit Go.Stop Go.Extern.Stop

theorem pairOf_err (f g : Fd) (hf : f.Wf) (hg : g.Wf) (h : pairCode f g ≠ 0) : ∃ (t : TypeId) (v : (Nat → Addr) → Value),
    (∀ A w, Sents w A → Calls Tryd.prog 25 #[.agg (fcells f), .agg (fcells g), .slice none 0 0] w fun e w' => e = .returned (.tuple #[.agg (pcells Fd.zero Fd.zero), .iface t (v A)]) ∧ Below w.heap.size w w') ∧
    (∀ A w, Sents w A → Calls Tryd.prog 21 #[.iface t (v A)] w fun e w' => e = .returned (.int .i64 (pairCode f g)) ∧ Below w.heap.size w w') := by
  cases hok : (okF f && okF g) with
  | false =>
    refine ⟨_, fun A => .agg #[errVal (A 1)], fun A w S => pairOf_bad f g hf hg hok _ A w S, fun A w S => ?_⟩
    rw [pairCode_bad hok]; exact codeOf_field A w S
  | true =>
    cases hp : (sameKB f g && lessB f g) with
    | true => exact absurd (pairCode_ok hok hp) h
    | false =>
      refine ⟨_, fun _ => .agg #[], fun A w S => pairOf_no f g hf hg hok hp A w S, fun A w S => ?_⟩
      rw [pairCode_no hok hp]; exact codeOf_pair A w S
theorem pairOf_fine (f g : Fd) (hf : f.Wf) (hg : g.Wf) (h : pairCode f g = 0) (A : Nat → Addr) (w : World) (S : Sents w A) :
    Calls Tryd.prog 25 #[.agg (fcells f), .agg (fcells g), .slice none 0 0] w fun e w' => e = .returned (.tuple #[.agg (pcells f g), .nilIface]) ∧ Below w.heap.size w w' := by
  cases hok : (okF f && okF g) with
  | false => rw [pairCode_bad hok] at h; cases h
  | true =>
    cases hp : (sameKB f g && lessB f g) with
    | true => exact pairOf_ok f g hf hg hok hp A w S
    | false => rw [pairCode_no hok hp] at h; cases h
theorem pairCode_fine {f g : Fd} (h : pairCode f g = 0) : okF f = true ∧ okF g = true ∧ sameKB f g = true ∧ lessB f g = true := by
  cases hok : (okF f && okF g) with
  | false => rw [pairCode_bad hok] at h; cases h
  | true =>
    cases hp : (sameKB f g && lessB f g) with
    | true =>
      simp only [Bool.and_eq_true] at hok hp
      exact ⟨hok.1, hok.2, hp.1, hp.2⟩
    | false => rw [pairCode_no hok hp] at h; cases h
theorem pairCode_in (f g : Fd) : 0 ≤ pairCode f g ∧ pairCode f g ≤ 4 := by unfold pairCode; repeat' split
                                                                           all_goals omega
/-- The losses where the fields are in order, 0 everywhere else. -/
def lossRow (f g : Fd) : Nat → Int := if pairCode f g = 0 then lossN f g else fun _ => 0
def lossSum (f g : Fd) : Int := if pairCode f g = 0 then totTo (lossN f g) 100 else 0
def bareSet (f g : Fd) : Nat → Int := if pairCode f g = 0 then wantSet f (baredB f g) 100 else fun _ => 0
end Go.Proofs.YtgnfpmpjmliegaaDoor
