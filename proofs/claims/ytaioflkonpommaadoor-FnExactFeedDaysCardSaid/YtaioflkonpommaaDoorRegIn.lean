/-
  A region that draws its order, within a fence (a round of a loop over a function): the walk of wp_region_rel_tail.
-/
import Derived.Test.YtaioflkonpommaaDoorCoreB
import Derived.Test.YtaioflkonpommaaDoorCoreA
import Derived.OrdersIn
import Derived.RangeFuncCalls
namespace Go.Proofs.YtaioflkonpommaaDoor
open Go Go.RowKit

section
variable {P : Program} {ops : Array Oper} {md : Region.Mode} {C : World → Prop} {F : Fence} {m : Nat}

theorem wpAnyIn_of_seq {Q' : Exit → Act → World → Prop} : ∀ (l : List Oper) (k : Nat) (listed : Array Bool) (a : Act) (w : World), (∀ j, l[j]? = ops[k + j]?) →
    Region.seqB md ops l.length k listed = true → wpListIn F m P ops Q' l a w → wpAnyIn F m P md ops Q' l.length listed a w
  | [], _, _, _, _, _, hB, h => ⟨by simpa [Region.seqB] using hB, h⟩
  | o :: l, k, listed, a, w, hl, hB, h => by
    have h0 : ops[k]? = some o := by simpa using (hl 0).symm
    simp only [List.length_cons, Region.seqB, Bool.and_eq_true, decide_eq_true_eq] at hB
    refine ⟨fun h1 => (by rw [hB.1] at h1; cases h1), fun i hi => ?_⟩
    rw [hB.1] at hi
    have hik : i = k := by simpa using hi
    subst hik
    have hw : wpOpIn F m P ops Q' i (wpListIn F m P ops Q' l) a w := by unfold wpOpIn; simp only [h0]; exact h
    exact wpOpIn_mono (fun a' w' h' => wpAnyIn_of_seq l (i + 1) _ a' w' (fun j => by have := hl (j + 1); simpa [Nat.add_assoc, Nat.add_comm 1 j] using this) hB.2 h') hw

theorem wpAnyIn_of_rel {D : RelD} {n gg base : Nat} {L : Array Bool → Act → Left → Prop} {Q' : Exit → Act → World → Prop} (hF : ∀ k, F.fn k) (hdep : F.depth.isSome = false) (hnd : ∀ (i : Nat) (o : Oper), ops[i]? = some o → ∀ c, o.op ≠ .defer c)
    (hcall : ∀ (f : FuncId) (args : Array Value) (w : World) (R : Ending → World → Prop), Calls P f args w R → CallsIn F (m - 1) P f args w R) (hC : Grows C) (hD : Stays D)
    (hL : ∀ listed a g w, L listed a g → Inv C base g w → wpAnyIn F m P md ops Q' gg listed a w) :
    ∀ (f : Nat) (listed : Array Bool) (a : Act) (g : Left) (w : World), (∀ i, listed.getD i true = false → g i = none) → Inv C base g w → wpAnyR P md ops C D n L f listed a g → wpAnyIn F m P md ops Q' (f + gg) listed a w
  | 0, listed, a, g, w, _, inv, h => by rw [Nat.zero_add]; exact hL _ _ _ _ h inv
  | f + 1, listed, a, g, w, hg, inv, h => by
    rw [show f + 1 + gg = (f + gg) + 1 by omega]
    refine ⟨fun h0 => absurd h0 h.1, fun i hi => ?_⟩
    have h1 := (h.2 i hi).2
    have hun := (mem_ready.1 hi).1
    have hg1 : ∀ k, (listed.setIfInBounds i true).getD k true = false → k ≠ i ∧ g k = none := fun k hk => by
      by_cases hik : i = k
      · subst hik
        exfalso
        have hlt : i < listed.size := by
          rcases Nat.lt_or_ge i listed.size with h' | h'
          · exact h'
          · simp [Array.getElem?_eq_none h'] at hun
        simp [hlt] at hk
      · rw [getD_set_ne true hik] at hk
        exact ⟨fun e => hik e.symm, hg k hk⟩
    have hgu : ∀ x k, (listed.setIfInBounds i true).getD k true = false → (g.upd i x) k = none := fun x k hk => by
      unfold Left.upd; rw [if_neg (hg1 k hk).1]; exact (hg1 k hk).2
    unfold relOp at h1
    unfold wpOpIn
    split
    · rename_i ho
      simp only [ho] at h1
      exact wpAnyIn_of_rel hF hdep hnd hcall hC hD hL f _ _ _ _ (fun k hk => (hg1 k hk).2) inv h1
    · rename_i o ho
      simp only [ho] at h1
      obtain ⟨hr, hn⟩ := h1
      unfold NextR at hn
      split
      · rename_i hw
        rw [if_pos hw] at hn
        have h3 := hr hw w inv.cls inv.facts.known
        unfold Oper.wpIn
        refine ⟨fun f' _ => hF f', ?_⟩
        rw [semAt_plain F.round a.eval o (hnd i o ho)]
        unfold relUpon at h3
        generalize (execOp a.eval o).run P w = r at h3
        match r, h3 with
        | .ok (.value u) w', ⟨hb, hR⟩ =>
          simp only [Oper.uponIn]
          exact wpAnyIn_of_rel hF hdep hnd hcall hC hD hL f _ _ _ _ (hgu _) (inv.put hC hD hb hR) (hn u _ _ ⟨hb.size, w', hC _ _ inv.cls hb, (inv.put hC hD hb hR).facts⟩)
        | .ok .skip w', ⟨hb, hR⟩ =>
          simp only [Oper.uponIn]
          exact wpAnyIn_of_rel hF hdep hnd hcall hC hD hL f _ _ _ _ (hgu _) (inv.put hC hD hb hR) (hn undef _ _ ⟨hb.size, w', hC _ _ inv.cls hb, (inv.put hC hD hb hR).facts⟩)
        | .ok (.enter f' args) w', ⟨e, hc⟩ =>
          simp only [Oper.uponIn]
          rw [e]
          refine ⟨fun h => (by rw [hdep] at h; cases h), (hcall _ _ _ _ hc).mono fun e w2 ⟨u, he, hb, hR⟩ => ?_⟩
          subst he
          exact wpAnyIn_of_rel hF hdep hnd hcall hC hD hL f _ _ _ _ (hgu _) (inv.put hC hD hb hR) (hn u _ _ ⟨hb.size, w2, hC _ _ inv.cls hb, (inv.put hC hD hb hR).facts⟩)
      · rename_i hw
        rw [if_neg hw] at hn
        exact ⟨fun f' _ => hF f', wpAnyIn_of_rel hF hdep hnd hcall hC hD hL f _ _ _ _ (fun k hk => (hg1 k hk).2) inv hn⟩

/-- A REGION THAT DRAWS ITS ORDER, within a fence: its first n operations go as D tells, in any order; the others, one behind the other, in theirs. -/
theorem wpIn_region_rel_tail {id : Nat} {Q : Exit → Act → World → Prop} {a : Act} {w : World} {l : List Oper} (n : Nat) (D : RelD) (C : World → Prop) (hF : ∀ k, F.fn k) (hdep : F.depth.isSome = false) (hnd : (l.all fun o => match o.op with | .defer _ => false | _ => true) = true)
    (hcall : ∀ (f : FuncId) (args : Array Value) (w : World) (R : Ending → World → Prop), Calls P f args w R → CallsIn F (m - 1) P f args w R)
    (hm : P.follows .mixedOrders = true) (hB : Region.lexTailB .any l.toArray n = true)
    (hC : Grows C) (hD : Stays D) (hc : C w.drew)
    (h : wpRel P l.toArray C D (fun a' g => ∀ w', Inv C w.heap.size g w' → wpListIn F m P l.toArray Q (l.drop n) a' w') (l.take n) 0 a Left.none) : (Code.region id l.toArray true).wpIn F m P Q a w := by
  have hnd' : ∀ (i : Nat) (o : Oper), l.toArray[i]? = some o → ∀ c, o.op ≠ .defer c := fun i o ho c hc => by
    have hmem : o ∈ l := by
      have : l[i]? = some o := by simpa using ho
      exact List.mem_of_getElem? this
    have := List.all_eq_true.1 hnd o hmem
    rw [hc] at this
    exact absurd this (by simp)
  simp only [Region.lexTailB, Bool.and_eq_true, decide_eq_true_eq] at hB
  obtain ⟨⟨⟨⟨hsel, hn⟩, hs⟩, hch⟩, hlex⟩ := hB
  have hn' : n < l.length := by simpa using hn
  have htl : (l.take n).length = n := by simp; omega
  have hdl : (l.drop n).length = l.toArray.size - n := by simp
  have inv0 : HeadInv .any l.toArray n (Array.replicate l.toArray.size false) :=
    ⟨by simp, fun j oj _ hl => (by rw [getD_replicate_false] at hl; cases hl), fun t _ ht => getD_in (by simpa using ht) (getD_replicate_false _ _)⟩
  have H := wpAnyR_lex (md := .any) (P := P) (C := C) (D := D) (gg := l.toArray.size - n) (Lq := fun a' g => ∀ w', Inv C w.heap.size g w' → wpListIn F m P l.toArray Q (l.drop n) a' w') hC hD hsel (HeadInv .any l.toArray n)
    (fun listed j inv hj hjn => inv.set hj hjn)
    (fun listed i inv hr hin j hj => by
      rcases Nat.lt_or_ge j n with hlt | hge
      · exact hlt
      · exact absurd hj (tail_waits hs hch hn inv _ i rfl hin (mem_ready.1 hr).1 j hge))
    (l.take n) 0 _ a Left.none (fun j hj => by
      have hj' : j < n := by rw [htl] at hj; exact hj
      simp [hj']) (by simpa using htl) inv0 (Good.begin hc) (fun _ _ => rfl) (by rw [htl]; exact hlex) h
  refine wpIn_region_any hm ?_
  have := wpAnyIn_of_rel (F := F) (m := m) (Q' := Q) (base := w.heap.size) (gg := l.toArray.size - n) hF hdep hnd' hcall hC hD (fun listed a' g w' hL inv => by
    have := wpAnyIn_of_seq (F := F) (m := m) (md := .any) (Q' := Q) (l.drop n) n listed a' w' (fun j => by simp [List.getElem?_drop]) (by rw [hdl]; exact hL.1) (hL.2 w' inv)
    rwa [hdl] at this) _ _ _ _ w.drew (fun _ _ => rfl) (Inv.begin (w := w.drew) hc) H
  rw [htl, show n + (l.toArray.size - n) = l.toArray.size by omega] at this
  exact this
end
end Go.Proofs.YtaioflkonpommaaDoor
