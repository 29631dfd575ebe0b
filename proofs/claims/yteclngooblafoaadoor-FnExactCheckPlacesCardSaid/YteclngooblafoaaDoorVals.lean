/-
  slices.Values over scarecrows: the iterator's contract; the one that is worth most.
-/
import Derived.Test.YteclngooblafoaaDoorFearS
import Derived.Test.YteclngooblafoaaDoorCoreA
import Derived.Test.YteclngooblafoaaDoorCoreD
import Derived.Lib.Hide
namespace Go.Proofs.YteclngooblafoaaDoor
open Go Go.RowKit Go.Shelf

/-- The first k places of n, ascending. -/
def finsTo (n : Nat) : Nat → List (Fin n)
  | 0 => []
  | k + 1 => if h : k < n then finsTo n k ++ [⟨k, h⟩] else finsTo n k
theorem finsTo_yes {n k : Nat} (h : k < n) : finsTo n (k + 1) = finsTo n k ++ [⟨k, h⟩] := by simp [finsTo, h]
theorem finsTo_length (n : Nat) : ∀ k, k ≤ n → (finsTo n k).length = k
  | 0, _ => rfl
  | k + 1, hk => by rw [finsTo_yes (by omega), List.length_append, finsTo_length n k (by omega)]; rfl
theorem cell_same {W W' : World} {d : Nat} (h : W'.heap[d]? = W.heap[d]?) (o : Nat) : W'.cell? ⟨d, o, none⟩ = W.cell? ⟨d, o, none⟩ := by
  unfold World.cell?
  rw [show W'.heap[(⟨d, o, none⟩ : Addr).block]? = W.heap[(⟨d, o, none⟩ : Addr).block]? from h]
theorem InS.same {W W' : World} {d o n : Nat} {ks : List IntKind} {F : Nat → Nat → Int} (h : W'.heap[d]? = W.heap[d]?) (I : InS W d o n ks F) : InS W' d o n ks F := fun i hi j v hj => by
  rw [cell_same h]; exact I i hi j v hj
abbrev SCL (F : Nat → Nat → Int) (k : Nat) : Array Value := #[.int .i16 (F k 0), .int .i16 (F k 1), .int .i8 (F k 2)]
set_option maxRecDepth 100000 in
set_option maxHeartbeats 4000000 in
theorem vals1_in (m l d n cap : Nat) (hn : n ≤ 2 ^ 40) (F : Nat → Nat → Int) (J Jx : List (Fin n) → World → Prop)
    (hA : ∀ s A B, J s A → Below A.heap.size A B → J s B)
    (hY : ∀ pre (x : Fin n) W, J pre W → pre.length < n → YieldAt Fence.wide (m - 1) Tryd.prog l #[vScarecrow (F x.1)] W fun e W' =>
      (e = .returned (.bool true) ∧ J (pre ++ [x]) W' ∧ (0 < n → W'.heap[d]? = W.heap[d]?)) ∨ (e = .returned (.bool false) ∧ Jx (pre ++ [x]) W'))
    (W : World) (bs : Nat) (B : W.cell? ⟨bs, 0, none⟩ = some (.slice (some ⟨d, 0, none⟩) n cap)) (I : InS W d 0 n ksScarecrow F) (h0 : J [] W) :
    CallsIn Fence.wide m Tryd.prog 93 #[.func (.yield l) #[] #[], .pointer (some ⟨bs, 0, none⟩)] W fun e W' => (∃ v, e = .returned v) ∧
      ((∃ ys, ys = finsTo n n ∧ J ys W') ∨ (∃ pre, (∃ k, k ≤ n ∧ pre = finsTo n k) ∧ Jx pre W')) := by
  have hdep : Fence.wide.depth.isSome = false := rfl
  have hfn : ∀ k, Fence.wide.fn k := fun _ => trivial
  have HA := Lib.hid hA
  have HI := Lib.hid I
  clear hA I
  refine callsIn_of_wp Tryd.func93 rfl trivial ?_ rfl
  simp only [Tryd.ntmps93, List.size_toArray, List.length_cons, List.length_nil, Nat.reduceAdd, Nat.reduceSub, Array.replicate_succ, Array.replicate_zero, List.push_toArray, List.append_toArray, List.nil_append, List.cons_append]
  gi_wp2
  clear B
  gi_loopw [7] (fun i wr => ∃ k : Nat, k ≤ n ∧ i = .int .i64 k ∧ J (finsTo n k) wr ∧ Hid (InS wr d 0 n ksScarecrow F)) (fun i _ => n - (intOf i).toNat)
  case atStart => exact ⟨0, by omega, rfl, h0, HI⟩
  case round =>
    clear HI h0
    obtain ⟨k, hk, rfl, hJs, hI⟩ := hrel
    by_cases hlt : k < n
    · have hyes : Hid (finsTo n (k + 1) = finsTo n k ++ [⟨k, hlt⟩]) := Lib.hid (finsTo_yes hlt)
      have hlen : (finsTo n k).length < n := by rw [finsTo_length n k hk]; exact hlt
      have hr : wr.rangeAt d (k * 3) (SCL F k).toList := by
        have h : wr.rangeAt d (0 + k * 3) (SCL F k).toList := hI.out.elem (by decide) (Below.refl _ _) hlt
        rw [Nat.zero_add] at h
        exact h
      gi_upto_region 3 with (refine loadIn hfn rfl 71 _ rfl d (k * 3) rfl (SCL F k) _ hr Tryd.underlying71 rfl (by kernel_rfl) ?_)
      clear hr
      have hb : Below wr.heap.size wr (wr.alloc (.cells (SCL F k) 71)) := (Below.refl _ _).alloc (Nat.le_refl _) _
      have P := Blk.new wr (SCL F k) 71
      have hJ2 := HA.out _ _ _ hJs hb
      have hI2 := Lib.hid (hI.out.later hb)
      obtain ⟨nb, hnb⟩ : ∃ nb, wr.heap.size = nb := ⟨_, rfl⟩
      rw [hnb] at P ⊢
      generalize wr.alloc (.cells (SCL F k) 71) = W4 at P hJ2 hI2 ⊢
      clear hb hJs hI hnb
      obtain ⟨fn, tmps, assign, body, hy', hR⟩ := hY (finsTo n k) ⟨k, hlt⟩ W4 hJ2 hlen
      dsimp only at hy'
      gi_wp2_with (refine loadIn hfn rfl 71 _ rfl nb 0 rfl (SCL F k) _ P.whole Tryd.underlying71 rfl (by kernel_rfl) ?_)
      refine hR.mono ?_
      rintro e W3 (⟨rfl, hJ3, hk3⟩ | ⟨rfl, hJx3⟩)
      · gi_wp2
        go_roundw
        case rel => exact ⟨k + 1, by omega, by go_num, by rw [hyes.out]; exact hJ3, Lib.hid (hI2.out.same (hk3 (by omega)))⟩
        case measure => simp [intOf]; omega
      · gi_wp2
        refine bodyPost_ret (results_none rfl _ _ _) rfl ?_
        exact ⟨⟨_, rfl⟩, .inr ⟨_, ⟨k + 1, by omega, hyes.out.symm⟩, hJx3⟩⟩
    · obtain rfl : k = n := by omega
      gi_wp2
      go_end0
      exact ⟨⟨_, rfl⟩, .inl ⟨_, rfl, hJs⟩⟩
/-- What the closure of slices.Values keeps its word on. -/
theorem vals_stops (m d n cap : Nat) (hn : n ≤ 2 ^ 40) (F : Nat → Nat → Int) (bs : Nat) (w : World) (B : w.cell? ⟨bs, 0, none⟩ = some (.slice (some ⟨d, 0, none⟩) n cap)) (I : InS w d 0 n ksScarecrow F) :
    SeqStopsK Fence.wide m Tryd.prog 93 #[.pointer (some ⟨bs, 0, none⟩)] (fun x : Fin n => #[vScarecrow (F x.1)]) (fun W W' => 0 < n → W'.heap[d]? = W.heap[d]?) (fun ys => ys = finsTo n n) (fun pre => ∃ k, k ≤ n ∧ pre = finsTo n k) n w :=
  fun l J Jx W hW' hAb _ hY h0 => vals1_in m l d n cap hn F J Jx (fun s A B' hs hb => hAb s A B' none hs ⟨hb.os, hb.tape, hb.output, hb.size, fun k hk _ => hb.block k hk⟩ (fun r e => by cases e)) hY W bs (cell_later B hW') (I.later hW') h0
theorem values_any (n cap d : Nat) (w : World) : Calls Tryd.prog 82 #[.slice (some ⟨d, 0, none⟩) n cap] w fun e w' => e = .returned (.func (.func 93) #[] #[.pointer (some ⟨w.heap.size, 0, none⟩)]) ∧ w' = w.alloc (Obj.cells #[.slice (some ⟨d, 0, none⟩) n cap] 44) := by
  go_enter Tryd.func82, Tryd.ntmps82
  go_wp2_with fail
  go_ret
  exact ⟨rfl, rfl⟩
end Go.Proofs.YteclngooblafoaaDoor
