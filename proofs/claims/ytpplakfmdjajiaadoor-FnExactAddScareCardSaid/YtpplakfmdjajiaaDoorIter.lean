/-
  The iterator over a field's cells: its contract: all cells, ascending; or a part of them, where a round says no more.
-/
import Derived.Test.YtpplakfmdjajiaaDoorImpl1
import Derived.RangeFuncNested
import Derived.RangeFuncBound
import Derived.RangeFuncCalls
import Derived.RangeFuncLeaves
import Derived.Shelf.Abstract
import Derived.Shelf.RegionOpen
import Derived.OwnWalkIn
import Derived.TacticsInMore
import Derived.LoopNIn
import Derived.LoopIn
namespace Go.Proofs.YtpplakfmdjajiaaDoor
open Go Go.RowKit Go.Shelf

/-- A cell of the field f. -/
abbrev CellOf (f : Fd) : Type := { c : Nat // isCell f c = true }
/-- The cells below n, ascending. -/
def cellsTo (f : Fd) : Nat → List (CellOf f)
  | 0 => []
  | n + 1 => if h : isCell f n = true then cellsTo f n ++ [⟨n, h⟩] else cellsTo f n
theorem cellsTo_yes {f : Fd} {n : Nat} (h : isCell f n = true) : cellsTo f (n + 1) = cellsTo f n ++ [⟨n, h⟩] := by simp [cellsTo, h]
theorem cellsTo_no {f : Fd} {n : Nat} (h : isCell f n = false) : cellsTo f (n + 1) = cellsTo f n := by simp [cellsTo, h]
theorem cellsTo_skip {f : Fd} {a b : Nat} (hab : a ≤ b) (h : ∀ c, a ≤ c → c < b → isCell f c = false) : cellsTo f b = cellsTo f a := by
  induction b with
  | zero => obtain rfl : a = 0 := by omega
            rfl
  | succ b ih =>
    by_cases e : a = b + 1
    · subst e; rfl
    · rw [cellsTo_no (h b (by omega) (by omega)), ih (by omega) (fun c h1 h2 => h c h1 (by omega))]
theorem cellsTo_length (f : Fd) : ∀ n, (cellsTo f n).length ≤ n
  | 0 => Nat.le_refl _
  | n + 1 => by
    have := cellsTo_length f n
    unfold cellsTo; split
    · simp; omega
    · omega
theorem cellsTo_mem {f : Fd} : ∀ {n : Nat} {c : CellOf f}, c ∈ cellsTo f n ↔ c.1 < n
  | 0, c => by simp [cellsTo]
  | n + 1, c => by
    unfold cellsTo; split
    · rename_i h
      rw [List.mem_append, cellsTo_mem]
      constructor
      · rintro (h1 | h1)
        · omega
        · have : c = ⟨n, h⟩ := by simpa using h1
          subst this; exact Nat.lt_succ_self n
      · intro h1
        by_cases e : c.1 = n
        · right; simp; exact Subtype.ext e
        · left; omega
    · rename_i h
      rw [cellsTo_mem]
      constructor
      · intro h1; omega
      · intro h1
        by_cases e : c.1 = n
        · exact absurd (e ▸ c.2) h
        · omega
theorem isCell_lt {f : Fd} {c : Nat} (h : isCell f c = true) : c < 100 := by
  simp only [isCell, Bool.and_eq_true, inB_iff] at h; omega
theorem isCell_xy {f : Fd} {x y : Nat} (hx : x < 10) (hy : y < 10) : isCell f ((x + 10 * y : Nat) : Int) = (decide ((x : Int) < f.W) && decide ((y : Int) < f.H)) := by
  unfold isCell inB
  rw [Bool.eq_iff_iff]
  simp only [Bool.and_eq_true, decide_eq_true_eq]
  have e1 : ((x + 10 * y : Nat) : Int) % 10 = x := by omega
  have e2 : ((x + 10 * y : Nat) : Int) / 10 = y := by omega
  rw [e1, e2]; omega

set_option maxRecDepth 100000 in
set_option maxHeartbeats 2000000 in
theorem cells1_in (n : Nat) (l Bs : Nat) (f : Fd) (hW : 0 ≤ f.W ∧ f.W ≤ 10) (hH : 0 ≤ f.H ∧ f.H ≤ 10) (J Jx : List (CellOf f) → World → Prop)
    (hY : ∀ pre (x : CellOf f) W, J pre W → pre.length < 100 → YieldAt Fence.wide (n - 1) Tryd.prog l #[.int .i64 (x.1 : Int)] W fun e W' =>
      (e = .returned (.bool true) ∧ J (pre ++ [x]) W' ∧ W'.heap[Bs]? = W.heap[Bs]?) ∨ (e = .returned (.bool false) ∧ Jx (pre ++ [x]) W'))
    (W : World) (B : Blk W Bs (fcells f) 32) (h0 : J [] W) :
    CallsIn Fence.wide n Tryd.prog 94 #[.func (.yield l) #[] #[], .pointer (some ⟨Bs, 0, none⟩)] W fun e W' => (∃ v, e = .returned v) ∧
      ((∃ ys, ys = cellsTo f 100 ∧ J ys W') ∨ (∃ pre, (∃ k, k ≤ 100 ∧ pre = cellsTo f k) ∧ Jx pre W')) := by
  have hdep : Fence.wide.depth.isSome = false := rfl
  have hfn : ∀ k, Fence.wide.fn k := fun _ => trivial
  have c0 := B.cell (fcells_0 f)
  have c1 := B.cell (fcells_1 f)
  obtain ⟨hW1, hW2⟩ := hW
  obtain ⟨hH1, hH2⟩ := hH
  refine callsIn_of_wp Tryd.func94 rfl trivial ?_ rfl
  simp only [Tryd.ntmps94, List.size_toArray, List.length_cons, List.length_nil, Nat.reduceAdd, Nat.reduceSub, Array.replicate_succ, Array.replicate_zero, List.push_toArray, List.append_toArray, List.nil_append, List.cons_append]
  gi_wp2
  clear c0 c1
  gi_loopw [8] (fun i wr => ∃ y : Nat, (y : Int) ≤ f.H ∧ i = .int .i64 y ∧ J (cellsTo f (10 * y)) wr ∧ Blk wr Bs (fcells f) 32) (fun i _ => 10 - (intOf i).toNat)
  case atStart => exact ⟨0, by omega, rfl, h0, B⟩
  case round =>
    obtain ⟨y, hy, rfl, hJs, hnx⟩ := hrel
    by_cases hlt : (y : Int) < f.H
    · have c0 := hnx.cell (fcells_0 f)
      gi_wp2
      clear c0
      obtain ⟨wo, rfl⟩ : ∃ wo : World, wo = wr := ⟨_, rfl⟩
      gi_loopw [14] (fun i wx => ∃ x : Nat, (x : Int) ≤ f.W ∧ i = .int .i64 x ∧ J (cellsTo f (x + 10 * y)) wx ∧ Blk wx Bs (fcells f) 32) (fun i _ => 10 - (intOf i).toNat)
      case atStart => exact ⟨0, by omega, rfl, by simpa using hJs, hnx⟩
      case round =>
        clear hJs hnx
        obtain ⟨x, hx, rfl, hJs, hnx⟩ := hrel
        by_cases hltx : (x : Int) < f.W
        · have hc : isCell f ((x + 10 * y : Nat) : Int) = true := by rw [isCell_xy (by omega) (by omega)]; simp [hltx, hlt]
          have hyes : Hid (cellsTo f (x + 10 * y + 1) = cellsTo f (x + 10 * y) ++ [⟨x + 10 * y, hc⟩]) := cellsTo_yes hc
          have hlen := isCell_lt hc
          obtain ⟨fn, tmps, assign, body, hy', hR⟩ := hY (cellsTo f (x + 10 * y)) ⟨x + 10 * y, hc⟩ wr hJs (by have := cellsTo_length f (x + 10 * y); omega)
          dsimp only at hy'
          rw [show ((x + 10 * y : Nat) : Int) = (x : Int) + 10 * (y : Int) by omega] at hy'
          gi_wp2_with (gi_at_call 95; refine (callsIn_wide.2 (cellAt_any _ _ ⟨by omega, by omega⟩ ⟨by omega, by omega⟩ _)).mono ?_; rintro e w' ⟨rfl, rfl⟩)
          refine hR.mono ?_
          rintro e W3 (⟨rfl, hJ3, hk3⟩ | ⟨rfl, hJx3⟩)
          · gi_wp2
            go_roundw
            case rel => exact ⟨x + 1, by omega, by go_num, by rw [show x + 1 + 10 * y = x + 10 * y + 1 by omega, hyes.out]; exact hJ3, hk3.trans hnx⟩
            case measure => simp [intOf]; omega
          · gi_wp2
            refine bodyPost_ret (results_none rfl _ _ _) rfl ?_
            exact ⟨⟨_, rfl⟩, .inr ⟨_, ⟨x + 10 * y + 1, by omega, hyes.out.symm⟩, hJx3⟩⟩
        · have hskip : Hid (cellsTo f (10 * (y + 1)) = cellsTo f (x + 10 * y)) := cellsTo_skip (by omega) (fun c h1 h2 => by
            obtain ⟨x', rfl⟩ : ∃ x', c = x' + 10 * y := ⟨c - 10 * y, by omega⟩
            rw [isCell_xy (by omega) (by omega)]; simp; omega)
          gi_wp2
          go_roundw
          case rel => exact ⟨y + 1, by omega, by go_num, by rw [hskip.out]; exact hJs, hnx⟩
          case measure => simp [intOf]; omega
    · have hskip : cellsTo f 100 = cellsTo f (10 * y) := cellsTo_skip (by omega) (fun c h1 h2 => by
        have e1 := Nat.div_add_mod c 10
        obtain ⟨x', y', hx', rfl⟩ : ∃ x' y', x' < 10 ∧ c = x' + 10 * y' := ⟨c % 10, c / 10, by omega, by omega⟩
        rw [isCell_xy hx' (by omega)]; simp; omega)
      rw [← hskip] at hJs
      clear hskip
      gi_wp2
      go_end0
      exact ⟨⟨_, rfl⟩, .inl hJs⟩

/-- What the closure of cellsIn keeps its word on: a round may turn what it likes but the box of the field. -/
theorem cells_stops (n : Nat) (Bs : Nat) (f : Fd) (hW : 0 ≤ f.W ∧ f.W ≤ 10) (hH : 0 ≤ f.H ∧ f.H ≤ 10) (w : World) (B : Blk w Bs (fcells f) 32) :
    SeqStopsK Fence.wide n Tryd.prog 94 #[.pointer (some ⟨Bs, 0, none⟩)] (fun x : CellOf f => #[Value.int .i64 (x.1 : Int)]) (fun W W' => W'.heap[Bs]? = W.heap[Bs]?) (fun ys => ys = cellsTo f 100) (fun pre => ∃ k, k ≤ 100 ∧ pre = cellsTo f k) 100 w :=
  fun l J Jx W hW' _ _ hY h0 => cells1_in n l Bs f hW hH J Jx hY W (B.later hW') h0

/-- The caller's memory abides what the loop's law and the iterator turn. -/
theorem Blk.grown {W W' : World} {row : Option Nat} {b : Nat} {cs : Array Value} {t : TypeId} (h : Blk W b cs t) (hg : W.grownBy W' row) (hr : ∀ r, row = some r → ∃ o : Obj, W.heap[r]? = some o ∧ o.isCells = false) : Blk W' b cs t := by
  unfold Blk
  rw [hg.block b h.lt (fun e => by
    obtain ⟨o, ho, hc⟩ := hr b e.symm
    rw [show W.heap[b]? = _ from h] at ho
    cases ho; cases hc)]
  exact h
theorem Mem.grown {w0 W W' : World} {L : List Ent} {row : Option Nat} {B : Nat} (H : Mem w0 W L) (hB : w0.heap.size ≤ B) (hg : W.grownBy W' row) (hr : ∀ r, row = some r → B ≤ r ∧ ∃ o : Obj, W.heap[r]? = some o ∧ o.isCells = false) : Mem w0 W' L :=
  ⟨H.below.grown hg H.below.size (fun k e => Nat.le_trans hB (hr k e).1), fun i e h => ⟨(H.blk i e h).1, (H.blk i e h).2.grown hg (fun r e => (hr r e).2)⟩, H.apart⟩
/-- The block of the deferred calls is taken: the memory is as it was. -/
theorem Mem.taken {w0 W : World} {L : List Ent} {D : Nat} {o o' : Obj} (H : Mem w0 W L) (hD : w0.heap.size ≤ D) (hK : W.heap[D]? = some o) (ho : o.isCells = false) : Mem w0 (W.putObj D o') L :=
  H.grown hD (grownBy_putObj' W D o') (fun r e => by cases e; exact ⟨Nat.le_refl _, o, hK, ho⟩)
theorem KeepsOthers.of_below {W W' : World} (h : Below W.heap.size W W') : KeepsOthers W W' :=
  ⟨h.size, fun k _ hk _ => (h.block k (Array.getElem?_eq_some_iff.1 hk).1).trans hk⟩
theorem keeps_setCells (b : Nat) : ∀ (vs : List Value) (o : Nat) (W : World), KeepsOthers W (W.setCells b o vs)
  | [], _, W => KeepsOthers.refl W
  | v :: r, o, W => (KeepsOthers.setCell W ⟨b, o, none⟩ v).trans (keeps_setCells b r (o + 1) _)
theorem Mem.same {w0 w1 W W' : World} {L L' : List Ent} (H : Mem w0 W L) (H' : Mem w1 W' L') (i j : Nat) {b : Nat} {cs : Array Value} {t : TypeId} (h : L[i]? = some ⟨b, cs, t⟩) (h' : L'[j]? = some ⟨b, cs, t⟩) : W'.heap[b]? = W.heap[b]? :=
  Eq.trans (H'.at j h') (Eq.symm (H.at i h))
end Go.Proofs.YtpplakfmdjajiaaDoor
