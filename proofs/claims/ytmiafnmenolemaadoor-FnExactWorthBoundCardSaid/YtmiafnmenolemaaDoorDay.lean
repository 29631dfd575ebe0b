/-
  The best day of a plot: the model's, the program's.
-/
import Derived.Test.YtmiafnmenolemaaDoorWorth
import Derived.Test.YtmiafnmenolemaaDoorMost64
import Derived.Test.YtmiafnmenolemaaDoorRegK
namespace Go.Proofs.YtmiafnmenolemaaDoor
open Go Go.RowKit Go.Shelf

/-- The first place of the greatest value among the first ones. -/
def fm (g : Nat → Int) : Nat → Nat
  | 0 => 0
  | n + 1 => if g (fm g n) < g n then n else fm g n
theorem fm_lt (g : Nat → Int) (n : Nat) (h : 1 ≤ n) : fm g n < n := by
  induction n with
  | zero => omega
  | succ n ih =>
    unfold fm
    split
    · omega
    · by_cases e : n = 0
      · subst e; simp [fm]
      · have := ih (by omega); omega
/-- The first k places of n, ascending. -/
def finsU (n : Nat) : Nat → List (Fin n)
  | 0 => []
  | k + 1 => if h : k < n then finsU n k ++ [⟨k, h⟩] else finsU n k
theorem finsU_yes {n k : Nat} (h : k < n) : finsU n (k + 1) = finsU n k ++ [⟨k, h⟩] := by simp [finsU, h]
theorem finsU_length (n : Nat) : ∀ k, k ≤ n → (finsU n k).length = k
  | 0, _ => rfl
  | k + 1, hk => by rw [finsU_yes (by omega), List.length_append, finsU_length n k (by omega)]; rfl
theorem mx_fm {n : Nat} (g : Nat → Int) : ∀ k, 1 ≤ k → k ≤ n → ∃ y : Fin n, mx (fun x : Fin n => g x.1) (finsU n k) = some y ∧ y.1 = fm g k
  | 0, h, _ => by omega
  | 1, _, h => ⟨⟨0, h⟩, by rw [finsU_yes (by omega)]; rfl, by simp [fm]⟩
  | k + 2, _, hk => by
    obtain ⟨y, h1, h2⟩ := mx_fm (n := n) g (k + 1) (by omega) (by omega)
    rw [finsU_yes (show k + 1 < n by omega), mx_snoc, h1]
    unfold fm
    by_cases e : g (fm g (k + 1)) < g (k + 1)
    · refine ⟨⟨k + 1, by omega⟩, ?_, by rw [if_pos e]⟩
      show (if g y.1 < g (k + 1) then _ else _) = _
      rw [h2, if_pos e]
    · refine ⟨y, ?_, by rw [if_neg e]; exact h2⟩
      show (if g y.1 < g (k + 1) then _ else _) = _
      rw [h2, if_neg e]
set_option maxRecDepth 100000 in
set_option maxHeartbeats 4000000 in
theorem before1_in (m l n : Nat) (hn : n ≤ 2 ^ 40) (Bs : Nat) (J Jx : List (Fin n) → World → Prop)
    (hA : ∀ s A B, J s A → Below A.heap.size A B → J s B)
    (hY : ∀ pre (x : Fin n) W, J pre W → pre.length < n → YieldAt Fence.wide (m - 1) Tryd.prog l #[.int .i64 (x.1 : Int)] W fun e W' =>
      (e = .returned (.bool true) ∧ J (pre ++ [x]) W' ∧ W'.heap[Bs]? = W.heap[Bs]?) ∨ (e = .returned (.bool false) ∧ Jx (pre ++ [x]) W'))
    (W : World) (B : W.cell? ⟨Bs, 0, none⟩ = some (.int .i64 n)) (h0 : J [] W) :
    CallsIn Fence.wide m Tryd.prog 65 #[.func (.yield l) #[] #[], .pointer (some ⟨Bs, 0, none⟩)] W fun e W' => (∃ v, e = .returned v) ∧
      ((∃ ys, ys = finsU n n ∧ J ys W') ∨ (∃ pre, (∃ k, k ≤ n ∧ pre = finsU n k) ∧ Jx pre W')) := by
  have hdep : Fence.wide.depth.isSome = false := rfl
  have hfn : ∀ k, Fence.wide.fn k := fun _ => trivial
  have HA := Lib.hid hA
  clear hA
  refine callsIn_of_wp Tryd.func65 rfl trivial ?_ rfl
  simp only [Tryd.ntmps65, List.size_toArray, List.length_cons, List.length_nil, Nat.reduceAdd, Nat.reduceSub, Array.replicate_succ, Array.replicate_zero, List.push_toArray, List.append_toArray, List.nil_append, List.cons_append]
  gi_wp2
  clear B
  gi_loopw [5] (fun i wr => ∃ k : Nat, k ≤ n ∧ i = .int .i64 k ∧ J (finsU n k) wr) (fun i _ => n - (intOf i).toNat)
  case atStart => exact ⟨0, by omega, rfl, h0⟩
  case round =>
    clear h0
    obtain ⟨k, hk, rfl, hJs⟩ := hrel
    by_cases hlt : k < n
    · have hyes : Hid (finsU n (k + 1) = finsU n k ++ [⟨k, hlt⟩]) := Lib.hid (finsU_yes hlt)
      have hlen : (finsU n k).length < n := by rw [finsU_length n k hk]; exact hlt
      obtain ⟨fn, tmps, assign, body, hy', hR⟩ := hY (finsU n k) ⟨k, hlt⟩ wr hJs hlen
      dsimp only at hy'
      gi_wp2
      refine hR.mono ?_
      rintro e W3 (⟨rfl, hJ3, hk3⟩ | ⟨rfl, hJx3⟩)
      · gi_wp2
        go_roundw
        case rel => exact ⟨k + 1, by omega, by go_num, by rw [hyes.out]; exact hJ3⟩
        case measure => simp [intOf]; omega
      · gi_wp2
        refine bodyPost_ret (results_none rfl _ _ _) rfl ?_
        exact ⟨⟨_, rfl⟩, .inr ⟨_, ⟨k + 1, by omega, hyes.out.symm⟩, hJx3⟩⟩
    · obtain rfl : k = n := by omega
      gi_wp2
      go_end0
      exact ⟨⟨_, rfl⟩, .inl ⟨_, rfl, hJs⟩⟩
theorem before_stops (m n : Nat) (hn : n ≤ 2 ^ 40) (Bs : Nat) (w : World) (B : w.cell? ⟨Bs, 0, none⟩ = some (.int .i64 n)) :
    SeqStopsK Fence.wide m Tryd.prog 65 #[.pointer (some ⟨Bs, 0, none⟩)] (fun x : Fin n => #[Value.int .i64 (x.1 : Int)]) (fun W W' => W'.heap[Bs]? = W.heap[Bs]?) (fun ys => ys = finsU n n) (fun pre => ∃ k, k ≤ n ∧ pre = finsU n k) n w :=
  fun l J Jx W hW' hAb _ hY h0 => before1_in m l n hn Bs J Jx (fun s A B' hs hb => hAb s A B' none hs ⟨hb.os, hb.tape, hb.output, hb.size, fun k hk _ => hb.block k hk⟩ (fun r e => by cases e)) hY W (cell_later B hW') h0
theorem numbersBefore_any (n : Int) (w : World) : Calls Tryd.prog 57 #[.int .i64 n] w fun e w' => e = .returned (.func (.func 65) #[] #[.pointer (some ⟨w.heap.size, 0, none⟩)]) ∧ w' = w.alloc (.cells #[.int .i64 n] 2) := by
  go_enter Tryd.func57, Tryd.ntmps57
  go_wp2_with fail
  go_ret
  exact ⟨rfl, rfl⟩
/-- The best day. -/
def bestD (a : Nat → Int) (n : Nat) : Nat := fm (fun d => worthA a d) n
theorem most_day (a : Nat → Int) (hok : plotOk a = true) (n : Nat) (hn : 1 ≤ n ∧ n ≤ 20) (Bs : Nat) (w : World) (hB : w.cell? ⟨Bs, 0, none⟩ = some (.int .i64 n)) :
    Calls Tryd.prog 56 #[.func (.func 65) #[] #[.pointer (some ⟨Bs, 0, none⟩)], .func (.func 42) #[vPlot a] #[]] w fun e w' => e = .returned (.tuple #[.int .i64 (bestD a n), .int .i64 (worthA a (bestD a n))]) ∧ Below w.heap.size w w' := by
  obtain ⟨y, h1, h2⟩ := mx_fm (n := n) (fun d => worthA a d) n hn.1 (Nat.le_refl _)
  have h := most64_gen (X := Fin n) (fun x => (x.1 : Int)) (fun x => worthA a x.1) 65 Bs (finsU n n) n (fun pre => ∃ k, k ≤ n ∧ pre = finsU n k) 42 #[vPlot a] #[] (fun _ => True) (fun _ _ _ _ => trivial)
    (fun x w' _ => worthOn_any a hok x.1 (by have := x.2; omega) w') (enters_of Tryd.func42 (by kernel_rfl) rfl) (enters_of Tryd.func65 (by kernel_rfl) rfl) w trivial (World.block_lt_of_cell? _ _ hB)
    (fun W hb => before_stops 2 n (by omega) Bs W (cell_later hB hb))
  rw [h1] at h
  have e : valM (fun x : Fin n => (x.1 : Int)) (some y) = (bestD a n : Int) := by show (y.1 : Int) = _; rw [h2]; rfl
  have e2 : valM (fun x : Fin n => worthA a x.1) (some y) = worthA a (bestD a n) := by show worthA a y.1 = _; rw [h2]; rfl
  rw [e, e2] at h
  exact h
end Go.Proofs.YtmiafnmenolemaaDoor
