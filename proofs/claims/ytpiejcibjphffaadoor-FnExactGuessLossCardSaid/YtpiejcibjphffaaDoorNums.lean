/-
  The iterator over a set's numbers: its contract: all numbers, ascending.
-/
import Derived.Test.YtpiejcibjphffaaDoorIter
import Derived.Test.YtpiejcibjphffaaDoorSets
import Derived.Test.YtpiejcibjphffaaDoorIn
import Derived.Lib.Hide
import Derived.Deep.QuietTactic
namespace Go.Proofs.YtpiejcibjphffaaDoor
open Go Go.RowKit Go.Shelf

/-- A number of the set g. -/
abbrev NumOf (g : Nat → Int) : Type := { c : Nat // c < 100 ∧ hasC g (c : Int) = true }
/-- The set's numbers below n, ascending. -/
def numsTo (g : Nat → Int) : Nat → List (NumOf g)
  | 0 => []
  | n + 1 => if h : n < 100 ∧ hasC g (n : Int) = true then numsTo g n ++ [⟨n, h⟩] else numsTo g n
theorem numsTo_yes {g : Nat → Int} {n : Nat} (h : n < 100 ∧ hasC g (n : Int) = true) : numsTo g (n + 1) = numsTo g n ++ [⟨n, h⟩] := by simp [numsTo, h]
theorem numsTo_no {g : Nat → Int} {n : Nat} (h : hasC g (n : Int) = false) : numsTo g (n + 1) = numsTo g n := by simp [numsTo, h]
theorem numsTo_length (g : Nat → Int) : ∀ n, (numsTo g n).length ≤ n
  | 0 => Nat.le_refl _
  | n + 1 => by
    have := numsTo_length g n
    unfold numsTo; split
    · simp; omega
    · omega
set_option maxRecDepth 100000 in
set_option maxHeartbeats 2000000 in
theorem nums1_in (n : Nat) (l Bs : Nat) (g : Nat → Int) (J Jx : List (NumOf g) → World → Prop)
    (hA : ∀ s A B, J s A → Below A.heap.size A B → J s B)
    (hY : ∀ pre (x : NumOf g) W, J pre W → pre.length < 100 → YieldAt Fence.wide (n - 1) Tryd.prog l #[.int .i64 (x.1 : Int)] W fun e W' =>
      (e = .returned (.bool true) ∧ J (pre ++ [x]) W' ∧ W'.heap[Bs]? = W.heap[Bs]?) ∨ (e = .returned (.bool false) ∧ Jx (pre ++ [x]) W'))
    (W : World) (B : Blk W Bs (acells .u64 2 g) 38) (h0 : J [] W) :
    CallsIn Fence.wide n Tryd.prog 78 #[.func (.yield l) #[] #[], .pointer (some ⟨Bs, 0, none⟩)] W fun e W' => (∃ v, e = .returned v) ∧
      ((∃ ys, ys = numsTo g 100 ∧ J ys W') ∨ (∃ pre, (∃ k, k ≤ 100 ∧ pre = numsTo g k) ∧ Jx pre W')) := by
  have hdep : Fence.wide.depth.isSome = false := rfl
  have hfn : ∀ k, Fence.wide.fn k := fun _ => trivial
  have HA := Lib.hid hA
  clear hA
  refine callsIn_of_wp Tryd.func78 rfl trivial ?_ rfl
  simp only [Tryd.ntmps78, List.size_toArray, List.length_cons, List.length_nil, Nat.reduceAdd, Nat.reduceSub, Array.replicate_succ, Array.replicate_zero, List.push_toArray, List.append_toArray, List.nil_append, List.cons_append]
  gi_wp2
  gi_loopw [4] (fun i wr => ∃ k : Nat, k ≤ 100 ∧ i = .int .i64 k ∧ J (numsTo g k) wr ∧ Blk wr Bs (acells .u64 2 g) 38) (fun i _ => 100 - (intOf i).toNat)
  case atStart => exact ⟨0, by omega, rfl, h0, B⟩
  case round =>
    obtain ⟨k, hk, rfl, hJs, hnx⟩ := hrel
    by_cases hlt : k < 100
    · cases hc : hasC g (k : Int) with
      | false =>
        have hno : Hid (numsTo g (k + 1) = numsTo g k) := Lib.hid (numsTo_no hc)
        gi_wp2_with (first
          | (refine loadIn hfn rfl 38 _ rfl Bs 0 rfl (acells .u64 2 g) _ hnx.whole Tryd.underlying38 rfl (by rw [acells_size]; exact sizeC) ?_)
          | (gi_at_call 60; refine (callsIn_wide.2 (hasCell_any g k _)).mono ?_; rintro e w1 ⟨rfl, hb1⟩; rw [hc]))
        go_roundw
        case rel => exact ⟨k + 1, by omega, by go_num, by rw [hno.out]; exact HA.out _ _ _ hJs hb1, hnx.later hb1⟩
        case measure => simp [intOf]; omega
      | true =>
        have hyes : Hid (numsTo g (k + 1) = numsTo g k ++ [⟨k, hlt, hc⟩]) := Lib.hid (numsTo_yes ⟨hlt, hc⟩)
        have hlen : (numsTo g k).length < 100 := by have := numsTo_length g k; omega
        gi_wp2_with (first
          | (refine loadIn hfn rfl 38 _ rfl Bs 0 rfl (acells .u64 2 g) _ hnx.whole Tryd.underlying38 rfl (by rw [acells_size]; exact sizeC) ?_)
          | (gi_at_call 60; refine (callsIn_wide.2 (hasCell_any g k _)).mono ?_; rintro e w1 ⟨rfl, hb1⟩; rw [hc]; obtain ⟨fn, tmps, assign, body, hy', hR⟩ := hY (numsTo g k) ⟨k, hlt, hc⟩ w1 (HA.out _ _ _ hJs hb1) hlen; dsimp only at hy'))
        refine hR.mono ?_
        rintro e W3 (⟨rfl, hJ3, hk3⟩ | ⟨rfl, hJx3⟩)
        · gi_wp2
          go_roundw
          case rel => exact ⟨k + 1, by omega, by go_num, by rw [hyes.out]; exact hJ3, hk3.trans (hnx.later hb1)⟩
          case measure => simp [intOf]; omega
        · gi_wp2
          refine bodyPost_ret (results_none rfl _ _ _) rfl ?_
          exact ⟨⟨_, rfl⟩, .inr ⟨_, ⟨k + 1, by omega, hyes.out.symm⟩, hJx3⟩⟩
    · obtain rfl : k = 100 := by omega
      gi_wp2
      go_end0
      exact ⟨⟨_, rfl⟩, .inl ⟨_, rfl, hJs⟩⟩
/-- What the closure of numbersIn keeps its word on. -/
theorem nums_stops (n : Nat) (Bs : Nat) (g : Nat → Int) (w : World) (B : Blk w Bs (acells .u64 2 g) 38) :
    SeqStopsK Fence.wide n Tryd.prog 78 #[.pointer (some ⟨Bs, 0, none⟩)] (fun x : NumOf g => #[Value.int .i64 (x.1 : Int)]) (fun W W' => W'.heap[Bs]? = W.heap[Bs]?) (fun ys => ys = numsTo g 100) (fun pre => ∃ k, k ≤ 100 ∧ pre = numsTo g k) 100 w :=
  fun l J Jx W hW' hAb _ hY h0 => nums1_in n l Bs g J Jx (fun s A B' hs hb => hAb s A B' none hs ⟨hb.os, hb.tape, hb.output, hb.size, fun k hk _ => hb.block k hk⟩ (fun r e => by cases e)) hY W (B.later hW') h0
theorem numbersIn_any (g : Nat → Int) (w : World) : Calls Tryd.prog 58 #[.agg (acells .u64 2 g)] w fun e w' => e = .returned (.func (.func 78) #[] #[.pointer (some ⟨w.heap.size, 0, none⟩)]) ∧ w' = w.alloc (Obj.cells (acells .u64 2 g) 38) := by
  go_enter Tryd.func58, Tryd.ntmps58
  go_wp2_with fail
  go_ret
  exact ⟨rfl, rfl⟩
end Go.Proofs.YtpiejcibjphffaaDoor
