/-
  ApplyEntry: the model's and the program's.
-/
import Derived.Test.YtgadjnddllaejaaDoorApplied
namespace Go.Proofs.YtgadjnddllaejaaDoor
open Go Go.RowKit

/-- The code of ApplyEntry, and its field. -/
def aeCode (f : Fd) (a : Nat → Int) : Int := if okF f = true then apCode f a else 1
def aeOut (f : Fd) (a : Nat → Int) : Fd := if aeCode f a = 0 then apField f a else Fd.zero
theorem ap_mem {w W W2 : World} {cs cs' : Array Value} {t : TypeId} {L : List Ent} (M : Mem w W (⟨w.heap.size, cs, t⟩ :: L)) {r : Option Nat} (hr : r = some w.heap.size) (hg : W.grownBy W2 r) (hB : Blk W2 w.heap.size cs' t) : Mem w W2 (⟨w.heap.size, cs', t⟩ :: L) := by
  subst hr
  refine M.put 0 cs' rfl ?_ hB ?_
  · exact ⟨hg.os.trans M.below.os, hg.tape.trans M.below.tape, hg.output.trans M.below.output, Nat.le_trans M.below.size hg.size, fun k hk => (hg.block k (Nat.lt_of_lt_of_le hk M.below.size) (fun e => by cases e; exact Nat.lt_irrefl _ hk)).trans (M.below.block k hk)⟩
  · intro b cs t hne hb
    unfold Blk
    rw [hg.block b hb.lt (fun e => hne (by cases e; rfl))]
    exact hb
theorem apField_W (f : Fd) (a : Nat → Int) : (apField f a).W = f.W ∧ (apField f a).H = f.H := by
  unfold apField; split <;> exact ⟨rfl, rfl⟩
theorem aeOut_size (f : Fd) (hf : f.Wf) (a : Nat → Int) : (-128 ≤ (aeOut f a).W ∧ (aeOut f a).W ≤ 127) ∧ (-128 ≤ (aeOut f a).H ∧ (aeOut f a).H ≤ 127) := by
  have h1 := hf.W
  have h2 := hf.H
  obtain ⟨e1, e2⟩ := apField_W f a
  unfold aeOut
  split
  · rw [e1, e2]; exact ⟨h1, h2⟩
  · exact ⟨⟨by decide, by decide⟩, ⟨by decide, by decide⟩⟩
theorem aeOut_no {f : Fd} {a : Nat → Int} {c : Int} (h : aeCode f a = c) (hc : c ≠ 0) : fcells (aeOut f a) = Tryd.zeroCells30 := by
  unfold aeOut; rw [if_neg (by rw [h]; exact hc), zeroFd]
theorem ap_codes (f : Fd) (a : Nat → Int) : apCode f a = 0 ∨ ∃ k : Nat, 1 ≤ k ∧ k ≤ 8 ∧ apCode f a = k := by
  unfold apCode
  repeat' split
  all_goals first | exact .inl rfl | exact .inr ⟨2, by omega, by omega, rfl⟩ | exact .inr ⟨3, by omega, by omega, rfl⟩ | exact .inr ⟨4, by omega, by omega, rfl⟩ | exact .inr ⟨8, by omega, by omega, rfl⟩
end Go.Proofs.YtgadjnddllaejaaDoor
