/-
  A region that draws its order and leaves open whether a part of an answer is taken out before or behind a store: it may be taken ahead (an edge more between the two says nothing less).
  Drawn regions in which a call reads what an earlier call has made.
-/
import Derived.Test.YtpplakfmdjajiaaDoorReg
import Derived.Test.YtpplakfmdjajiaaDoorRegM
namespace Go.Proofs.YtpplakfmdjajiaaDoor
section
open Go Go.RowKit

section
variable {P : Program} {ops : Array Oper} {md : Region.Mode} {Q : Exit → Act → World → Prop}

/-- The operation i waits for j, too. -/
def withEdge (o : Oper) (j : Nat) : Oper := { o with after := o.after.push ⟨j, .phase⟩ }
def addEdge (l : List Oper) (e : Nat × Nat) : List Oper := match l[e.1]? with | some o => l.set e.1 (withEdge o e.2) | none => l
/-- May the edge (i, j) be laid? -/
def edgeB (md : Region.Mode) (ops : Array Oper) (i j : Nat) : Bool :=
  match ops[i]?, ops[j]? with
  | some oi, some oj => i != j && Region.noSelect ops && (match oj.op with | .extract _ _ => true | _ => false) && oj.guard.isNone &&
      oj.after.all (fun e => !Region.binds md e || oi.after.any fun e' => Region.binds md e' && e'.on == e.on) &&
      (List.range ops.size).all fun k => k == j || match ops[k]? with
        | some ok => ok.after.any (fun e => Region.binds md e && e.on == j) || oj.after.any (fun e => Region.binds md e && e.on == k) || oj.apart ops ok
        | none => true
  | _, _ => false

structure EdgeOk (md : Region.Mode) (ops : Array Oper) (i j : Nat) (oi oj : Oper) : Prop where
  hi : ops[i]? = some oi
  hj : ops[j]? = some oj
  ne : i ≠ j
  sel : Region.noSelect ops = true
  ext : ∃ x n, oj.op = .extract x n
  free : oj.guard = none
  deps : ∀ e ∈ oj.after, Region.binds md e = true → ∃ e' ∈ oi.after, Region.binds md e' = true ∧ e'.on = e.on
  apart : ∀ k ok, ops[k]? = some ok → k ≠ j → (∀ e ∈ ok.after, Region.binds md e = true → e.on ≠ j) → (∀ e ∈ oj.after, Region.binds md e = true → e.on ≠ k) → oj.apart ops ok = true

theorem edge_ok {i j : Nat} (h : edgeB md ops i j = true) : ∃ oi oj, EdgeOk md ops i j oi oj := by
  unfold edgeB at h
  split at h
  · rename_i oi oj hi hj
    simp only [Bool.and_eq_true] at h
    obtain ⟨⟨⟨⟨⟨h1, h2⟩, h3⟩, h4⟩, h5⟩, h6⟩ := h
    refine ⟨oi, oj, hi, hj, by simpa using h1, h2, ?_, by simpa using h4, ?_, ?_⟩
    · cases ho : oj.op with
      | extract x n => exact ⟨x, n, rfl⟩
      | _ => rw [ho] at h3; cases h3
    · intro e he hb
      rw [Array.all_eq_true_iff_forall_mem] at h5
      have := h5 e he
      simp only [hb, Bool.not_true, Bool.false_or, Array.any_eq_true'] at this
      obtain ⟨e', he', h'⟩ := this
      simp only [Bool.and_eq_true, beq_iff_eq] at h'
      exact ⟨e', he', h'.1, h'.2⟩
    · intro k ok hk hkj hno1 hno2
      have hlt := (Array.getElem?_eq_some_iff.1 hk).1
      have := List.all_eq_true.1 h6 k (List.mem_range.2 hlt)
      simp only [hk, Bool.or_eq_true, beq_iff_eq, hkj, false_or] at this
      rcases this with (h' | h') | h'
      · obtain ⟨e, he, hb⟩ := Array.any_eq_true'.1 h'
        simp only [Bool.and_eq_true, beq_iff_eq] at hb
        exact absurd hb.2 (hno1 e he hb.1)
      · obtain ⟨e, he, hb⟩ := Array.any_eq_true'.1 h'
        simp only [Bool.and_eq_true, beq_iff_eq] at hb
        exact absurd hb.2 (hno2 e he hb.1)
      · exact h'
  · cases h

variable {i j : Nat} {oi oj : Oper}
theorem get_edge (hi : ops[i]? = some oi) (k : Nat) : (ops.setIfInBounds i (withEdge oi j))[k]? = if k = i then some (withEdge oi j) else ops[k]? := by
  have hlt := (Array.getElem?_eq_some_iff.1 hi).1
  rw [Array.getElem?_setIfInBounds]
  by_cases hk : k = i
  · subst hk; rw [if_pos rfl, if_pos rfl, if_pos hlt]
  · rw [if_neg (fun e => hk e.symm), if_neg hk]
theorem yielded_edge (hi : ops[i]? = some oi) (tmps : Array Value) : yielded (ops.setIfInBounds i (withEdge oi j)) tmps = yielded ops tmps := by
  funext k
  unfold yielded
  rw [get_edge hi]
  by_cases hk : k = i
  · subst hk; rw [if_pos rfl, hi]; rfl
  · rw [if_neg hk]
theorem wpOp_edge (hi : ops[i]? = some oi) (k : Nat) (K : Act → World → Prop) (a : Act) (w : World) : wpOp P (ops.setIfInBounds i (withEdge oi j)) Q k K a w ↔ wpOp P ops Q k K a w := by
  unfold wpOp
  rw [yielded_edge hi, get_edge hi]
  by_cases hk : k = i
  · subst hk; rw [if_pos rfl, hi]; exact Iff.rfl
  · rw [if_neg hk]
theorem ready_less (hi : ops[i]? = some oi) {k : Nat} {listed : Array Bool} (h : k ∈ Region.ready md (ops.setIfInBounds i (withEdge oi j)) listed) : k ∈ Region.ready md ops listed := by
  rw [mem_ready] at *
  obtain ⟨h0, o, ho, hall⟩ := h
  rw [get_edge hi] at ho
  by_cases hk : k = i
  · subst hk; rw [if_pos rfl] at ho; cases ho
    exact ⟨h0, oi, hi, fun e he hb => hall e (Array.mem_push.2 (.inl he)) hb⟩
  · rw [if_neg hk] at ho; exact ⟨h0, o, ho, hall⟩
theorem ready_more (H : EdgeOk md ops i j oi oj) {k : Nat} {listed : Array Bool} (hs : listed.size = ops.size) (h : k ∈ Region.ready md ops listed) :
    k ∈ Region.ready md (ops.setIfInBounds i (withEdge oi j)) listed ∨ (k = i ∧ listed.getD j true = false ∧ j ∈ Region.ready md ops listed ∧ j ∈ Region.ready md (ops.setIfInBounds i (withEdge oi j)) listed) := by
  have hk0 := h
  rw [mem_ready] at h
  obtain ⟨h0, o, ho, hall⟩ := h
  by_cases hk : k = i
  · subst hk
    rw [H.hi] at ho; cases ho
    have hlt : j < listed.size := by rw [hs]; exact (Array.getElem?_eq_some_iff.1 H.hj).1
    by_cases hl : listed.getD j false = true
    · left
      rw [mem_ready]
      refine ⟨h0, withEdge oi j, by rw [get_edge H.hi, if_pos rfl], fun e he hb => ?_⟩
      rcases Array.mem_push.1 he with he | rfl
      · exact hall e he hb
      · exact hl
    · right
      have hun : listed.getD j true = false := by
        simp only [Array.getD_eq_getD_getElem?, Array.getElem?_eq_getElem hlt, Option.getD_some] at hl ⊢
        simpa using hl
      have hjr : ∀ e ∈ oj.after, Region.binds md e = true → listed.getD e.on false = true := fun e he hb => by
        obtain ⟨e', he', hb', heq⟩ := H.deps e he hb
        rw [← heq]; exact hall e' he' hb'
      refine ⟨rfl, hun, mem_ready.2 ⟨hun, oj, H.hj, hjr⟩, mem_ready.2 ⟨hun, oj, by rw [get_edge H.hi, if_neg (fun e => H.ne e.symm)]; exact H.hj, hjr⟩⟩
  · left
    rw [mem_ready]
    exact ⟨h0, o, by rw [get_edge H.hi, if_neg hk]; exact ho, hall⟩
theorem extract_yields (H : EdgeOk md ops i j oi oj) {K : Act → World → Prop} {a : Act} {w : World} (h : wpOp P ops Q j K a w) : ∃ v, Yields P ops oj v a ∧ K (a.put oj.dst v) w := by
  obtain ⟨x, n, ho⟩ := H.ext
  have hw : Region.wanted oj (yielded ops a.tmps) = true := by simp [Region.wanted, H.free]
  unfold wpOp at h
  simp only [H.hj, hw, if_true] at h
  have hna : ¬ oj.asks P a w := by
    unfold Oper.asks execOp
    simp only [ho]
    intro hc
    have hc := hc.1
    cases hx : a.eval x with
    | tuple vs =>
      cases hv : vs[n]? with
      | some v => rw [hx] at hc; simp only [Instr.extract, hv] at hc; change noRoomEvent ∈ (#[] : Array Event) at hc; simp at hc
      | none => rw [hx] at hc; simp only [Instr.extract, hv] at hc; change noRoomEvent ∈ (#[] : Array Event) at hc; simp at hc
    | _ => rw [hx] at hc; simp only [Instr.extract] at hc; change noRoomEvent ∈ (#[] : Array Event) at hc; simp at hc
  rcases h with h | ⟨h, _⟩
  · unfold Oper.wp at h
    cases hx : a.eval x with
    | tuple vs =>
      cases hv : vs[n]? with
      | some v =>
        have hr : ∀ w, (execOp a.eval oj).run P w = .ok (.value v) w := fun w => by
          unfold execOp
          simp only [ho, hx, Instr.extract, hv]
          rfl
        rw [hr] at h
        exact ⟨v, .inl ⟨hw, hr⟩, h⟩
      | none =>
        exfalso
        have hr : (execOp a.eval oj).run P w = (stuck "Extract: no such component" : Sem Next).run P w := by
          unfold execOp
          simp only [ho, hx, Instr.extract, hv]
          rfl
        rw [hr] at h
        simp [go_sem, Oper.upon] at h
    | _ =>
      exfalso
      have hr : (execOp a.eval oj).run P w = (stuck "Extract: tuple expected" : Sem Next).run P w := by
        unfold execOp
        simp only [ho, hx, Instr.extract]
        rfl
      rw [hr] at h
      simp [go_sem, Oper.upon] at h
  · exact absurd h hna
theorem unlisted_dep {k : Nat} {o : Oper} {listed : Array Bool} (h : ∀ e ∈ o.after, Region.binds md e = true → listed.getD e.on false = true) (hk : listed.getD k true = false) : ∀ e ∈ o.after, Region.binds md e = true → e.on ≠ k := fun e he hb heq => by
  have h1 := h e he hb
  rw [heq, getD_both hk] at h1
  cases h1
/-- An edge more, and the walk still tells of all orders. -/
theorem wpAny_edge (H : EdgeOk md ops i j oi oj) (hQ : ∀ c a v w, Q (.panic c) (a.put oj.dst v) w → Q (.panic c) a w) :
    ∀ (fuel : Nat) (listed : Array Bool) (a : Act) (w : World), listed.size = ops.size → wpAny P md (ops.setIfInBounds i (withEdge oi j)) Q fuel listed a w → wpAny P md ops Q fuel listed a w := by
  intro fuel
  induction fuel with
  | zero =>
    intro listed a w hs h
    refine ⟨List.eq_nil_iff_forall_not_mem.2 fun k hk => ?_, h.2⟩
    rcases ready_more H hs hk with h1 | ⟨_, _, _, h1⟩ <;> (rw [h.1] at h1; cases h1)
  | succ fuel ih =>
    intro listed a w hs h
    refine ⟨fun he => h.1 (List.eq_nil_iff_forall_not_mem.2 fun k hk => ?_), fun k hk => ?_⟩
    · have := ready_less H.hi hk
      rw [he] at this; cases this
    · rcases ready_more H hs hk with h1 | ⟨rfl, hun, hjr, hjr'⟩
      · exact wpOp_mono (fun a' w' h' => ih _ a' w' (by simpa using hs) h') ((wpOp_edge H.hi k _ a w).1 (h.2 k h1))
      · have hkr := hk
        obtain ⟨v, hy, hK⟩ := extract_yields H ((wpOp_edge H.hi j _ a w).1 (h.2 j hjr'))
        have hK' := ih (listed.setIfInBounds j true) (a.put oj.dst v) w (by simpa using hs) hK
        have hkj := ready_mono hkr H.ne
        cases fuel with
        | zero => rw [hK'.1] at hkj; cases hkj
        | succ f =>
          have h3 := hK'.2 k hkj
          obtain ⟨hun2, ok, hok, hall⟩ := mem_ready.1 hkr
          rw [H.hi] at hok; cases hok
          obtain ⟨_, oj2, hoj2, hallj⟩ := mem_ready.1 hjr
          rw [H.hj] at hoj2; cases hoj2
          have hap := H.apart k oi H.hi H.ne (unlisted_dep hall hun) (unlisted_dep hallj hun2)
          have h4 := wpOp_put H.hi hap (fun cs b => Region.noSelect_spec H.sel j oj cs b H.hj) (fun cs b => Region.noSelect_spec H.sel k oi cs b H.hi) (fun c a w => hQ c a v w) hy h3
          refine wpOp_mono (fun a' w' h5 => ?_) h4
          refine wpAny_first H.hj (Region.noSelect_spec H.sel) (fun c a w => hQ c a v w) f (listed.setIfInBounds k true) a' w' (fun q oq hq hqj hunq hno => H.apart q oq hq hqj hno (unlisted_dep hallj ?_)) (ready_mono hjr H.ne.symm) h5.1 ?_
          · by_cases hkq : k = q
            · subst hkq; exact hun2
            · rw [getD_set_ne true hkq] at hunq; exact hunq
          · rw [Array.setIfInBounds_comm _ _ H.ne]
            exact h5.2
end
section
variable {P : Program} {Q : Exit → Act → World → Prop}
def edgesB (md : Region.Mode) : List Oper → List (Nat × Nat) → Bool
  | _, [] => true
  | l, e :: es => edgeB md l.toArray e.1 e.2 && edgesB md (addEdge l e) es
theorem addEdge_length (l : List Oper) (e : Nat × Nat) : (addEdge l e).length = l.length := by
  unfold addEdge; split <;> simp
theorem wpAny_edges {md : Region.Mode} (hQ : ∀ c a (d : Tmp) v w, Q (.panic c) (a.put (some d) v) w → Q (.panic c) a w) : ∀ (es : List (Nat × Nat)) (l : List Oper), edgesB md l es = true → ∀ (fuel : Nat) (listed : Array Bool) (a : Act) (w : World), listed.size = l.length →
    wpAny P md (es.foldl addEdge l).toArray Q fuel listed a w → wpAny P md l.toArray Q fuel listed a w
  | [], _, _, _, _, _, _, _, h => h
  | e :: es, l, hB, fuel, listed, a, w, hs, h => by
    simp only [edgesB, Bool.and_eq_true] at hB
    have h1 := wpAny_edges hQ es (addEdge l e) hB.2 fuel listed a w (by rw [addEdge_length]; exact hs) h
    obtain ⟨oi, oj, H⟩ := edge_ok hB.1
    have hl : (addEdge l e).toArray = l.toArray.setIfInBounds e.1 (withEdge oi e.2) := by
      have hi : l[e.1]? = some oi := by simpa using H.hi
      unfold addEdge
      simp [hi]
    rw [hl] at h1
    have hQ' : ∀ c a v w, Q (.panic c) (a.put oj.dst v) w → Q (.panic c) a w := fun c a v w h => by
      cases hd : oj.dst with
      | none => rw [hd] at h; exact h
      | some d => rw [hd] at h; exact hQ c a d v w h
    exact wpAny_edge H hQ' fuel listed a w (by simpa using hs) h1
theorem foldl_length (es : List (Nat × Nat)) : ∀ l : List Oper, (es.foldl addEdge l).length = l.length := by
  induction es with
  | nil => intro l; rfl
  | cons e es ih => intro l; rw [List.foldl_cons, ih, addEdge_length]
/-- The operation without its edges: what it does, and what the walk tells of it, does not look at them. -/
def strip (o : Oper) : Oper := { o with after := #[] }
theorem strip_with (o : Oper) (j : Nat) : strip (withEdge o j) = strip o := rfl
theorem strip_addEdge (l : List Oper) (e : Nat × Nat) : (addEdge l e).map strip = l.map strip := by
  unfold addEdge
  split
  · rename_i o ho
    apply List.ext_getElem?
    intro k
    rw [List.getElem?_map, List.getElem?_map, List.getElem?_set]
    by_cases hk : e.1 = k
    · subst hk
      have hlt := (List.getElem?_eq_some_iff.1 ho).1
      rw [if_pos rfl, if_pos hlt, ho]; rfl
    · rw [if_neg hk]
  · rfl
theorem strip_fold : ∀ (es : List (Nat × Nat)) (l : List Oper), (es.foldl addEdge l).map strip = l.map strip
  | [], _ => rfl
  | e :: es, l => (strip_fold es (addEdge l e)).trans (strip_addEdge l e)
theorem yielded_strip (ops : Array Oper) (tmps : Array Value) : yielded (ops.map strip) tmps = yielded ops tmps := by
  funext k
  unfold yielded
  rw [Array.getElem?_map]
  cases ops[k]? <;> rfl
theorem looksAt_strip (ops : Array Oper) (o : Oper) : (strip o).looksAt (ops.map strip) = o.looksAt ops := by
  unfold Oper.looksAt
  show _ ++ (match o.guard with | some (g, _) => (((ops.map strip)[g]?).bind (·.dst)).toList | none => []) = _
  cases o.guard with
  | none => rfl
  | some p =>
    obtain ⟨q, b⟩ := p
    show _ ++ (((ops.map strip)[q]?).bind (·.dst)).toList = _ ++ ((ops[q]?).bind (·.dst)).toList
    rw [Array.getElem?_map]
    cases ops[q]? <;> rfl
theorem known_strip (ops : Array Oper) (o : Oper) (g : Left) (w : World) : Known (ops.map strip) (strip o) g w ↔ Known ops o g w := by
  unfold Known
  rw [looksAt_strip]
  constructor
  · intro h k ok d x h1 h2 h3 h4
    exact h k (strip ok) d x (by rw [Array.getElem?_map, h1]; rfl) h2 h3 h4
  · intro h k ok d x h1 h2 h3 h4
    rw [Array.getElem?_map] at h1
    cases hk : ops[k]? with
    | none => rw [hk] at h1; cases h1
    | some o2 => rw [hk] at h1; cases h1; exact h k o2 d x hk h2 h3 h4
theorem execOp_strip (ev : Operand → Value) (o : Oper) : execOp ev (strip o) = execOp ev o := rfl
theorem runsOk_strip {C : World → Prop} {D : RelD} (ops : Array Oper) (k : Nat) (o : Oper) (a : Act) (g : Left) : RunsOk P (ops.map strip) C D k (strip o) a g ↔ RunsOk P ops C D k o a g := by
  unfold RunsOk GoesF
  rw [yielded_strip, execOp_strip]
  constructor
  · exact fun h hw w hc hk => h hw w hc ((known_strip ops o g w).2 hk)
  · exact fun h hw w hc hk => h hw w hc ((known_strip ops o g w).1 hk)
theorem nextR_strip {C : World → Prop} {D : RelD} (ops : Array Oper) (k : Nat) (o : Oper) (K : Act → Left → Prop) (a : Act) (g : Left) : NextR (ops.map strip) C D k (strip o) K a g ↔ NextR ops C D k o K a g := by
  unfold NextR
  rw [yielded_strip]
  exact Iff.rfl
theorem wpRel_strip {C : World → Prop} {D : RelD} {R : Act → Left → Prop} (ops : Array Oper) : ∀ (l : List Oper) (k : Nat) (a : Act) (g : Left), wpRel P (ops.map strip) C D R (l.map strip) k a g ↔ wpRel P ops C D R l k a g
  | [], _, _, _ => Iff.rfl
  | o :: l, k, a, g => by
    show (RunsOk P (ops.map strip) C D k (strip o) a g ∧ NextR (ops.map strip) C D k (strip o) (wpRel P (ops.map strip) C D R (l.map strip) (k + 1)) a g) ↔ (RunsOk P ops C D k o a g ∧ NextR ops C D k o (wpRel P ops C D R l (k + 1)) a g)
    rw [runsOk_strip, nextR_strip]
    constructor
    · exact fun h => ⟨h.1, h.2.mono (fun a' g' => (wpRel_strip ops l (k + 1) a' g').1)⟩
    · exact fun h => ⟨h.1, h.2.mono (fun a' g' => (wpRel_strip ops l (k + 1) a' g').2)⟩
theorem wpRel_mono {C : World → Prop} {D : RelD} {R R' : Act → Left → Prop} (ops : Array Oper) (h : ∀ a g, R a g → R' a g) : ∀ (l : List Oper) (k : Nat) (a : Act) (g : Left), wpRel P ops C D R l k a g → wpRel P ops C D R' l k a g
  | [], _, a, g, hh => h a g hh
  | _ :: l, k, _, _, hh => ⟨hh.1, hh.2.mono (fun a' g' => wpRel_mono ops h l (k + 1) a' g')⟩
theorem wpList_strip (ops : Array Oper) : ∀ (l : List Oper) (a : Act) (w : World), wpList P (ops.map strip) Q (l.map strip) a w ↔ wpList P ops Q l a w
  | [], _, _ => Iff.rfl
  | o :: l, a, w => by
    show (if Region.wanted (strip o) (yielded (ops.map strip) a.tmps) then _ else _) ↔ (if Region.wanted o (yielded ops a.tmps) then _ else _)
    rw [yielded_strip]
    have e : wpList P (ops.map strip) Q (l.map strip) = wpList P ops Q l := by
      funext a' w'; exact propext (wpList_strip ops l a' w')
    rw [e]
    exact Iff.rfl
/-- A region that draws its order, walked in the order of its text as if the edges es were there besides. -/
theorem wp_region_rel_edges {id : Nat} {a : Act} {w : World} {l : List Oper} {C : World → Prop} (es : List (Nat × Nat)) (n : Nat) (D : RelD) (hQ : ∀ c a (d : Tmp) v w, Q (.panic c) (a.put (some d) v) w → Q (.panic c) a w) (he : edgesB .any l es = true)
    (hm : P.follows .mixedOrders = true) (hB : Region.lexTailB .any (es.foldl addEdge l).toArray n = true) (hC : Grows C) (hD : Stays D) (hc : C w.drew)
    (h : wpRel P l.toArray C D (fun a' g => ∀ w', Inv C w.heap.size g w' → wpList P l.toArray Q (l.drop n) a' w') (l.take n) 0 a Left.none) : (Code.region id l.toArray true).wp P Q a w := by
  refine wp_region_any hm ?_
  have es1 := strip_fold es l
  have ea : (es.foldl addEdge l).toArray.map strip = l.toArray.map strip := by rw [List.map_toArray, List.map_toArray, es1]
  have h1 := (wpRel_strip l.toArray (l.take n) 0 a Left.none).2 h
  rw [← ea, List.map_take, ← es1, ← List.map_take] at h1
  have h2 := (wpRel_strip (es.foldl addEdge l).toArray ((es.foldl addEdge l).take n) 0 a Left.none).1 h1
  have h3 := wpRel_mono (R' := fun a' g => ∀ w', Inv C w.heap.size g w' → wpList P (es.foldl addEdge l).toArray Q ((es.foldl addEdge l).drop n) a' w') (es.foldl addEdge l).toArray (fun a' g hh w' inv => by
    have h4 := (wpList_strip l.toArray (l.drop n) a' w').2 (hh w' inv)
    rw [← ea, List.map_drop, ← es1, ← List.map_drop] at h4
    exact (wpList_strip (es.foldl addEdge l).toArray ((es.foldl addEdge l).drop n) a' w').1 h4) _ _ _ _ h2
  have := wpAny_edges (md := .any) hQ es l he l.toArray.size (Array.replicate l.toArray.size false) a { w with drawn := w.drawn + 1 } (by simp) (by
    have := wpAny_rel_tail (P := P) (Q := Q) (l := es.foldl addEdge l) n D C hB hC hD hc h3
    have e : (es.foldl addEdge l).toArray.size = l.toArray.size := by simp [foldl_length]
    rw [e] at this
    exact this)
  exact this
end
end
section
open Go Go.RowKit

section
variable {P : Program} {ops : Array Oper} {C : World → Prop} {l : List OpD} {Q : Act → Left → Prop} {o : Oper} {rest : List Oper} {k : Nat} {a : Act} {g : Left}
/-- A call that reads what the operation k0 has left. -/
theorem rel_callK (k0 : Nat) (v0 : Value) (f : FuncId) (args : Array Value) (hl : l[k]? = some (dV v0)) (hw : Region.wanted o (yielded ops a.tmps) = true) {xs : Array Operand} {tys : Array TypeId} (ho : o.op = .call { callee := .value (.func f), args := xs, argTypes := tys }) (hvs : xs.toList.map a.eval = args.toList) (he : ∀ (args : Array Value) (w : World), (callFunc f args).run P w = .ok (.enter f args) w)
    {ok : Oper} {d : Tmp} {x : Nat × Nat × (World → Prop)} (h0 : ops[k0]? = some ok) (hd : ok.dst = some d) (hin : (o.looksAt ops).contains d = true) (hx : g k0 = some x)
    (hc : ∀ w, C w → x.2.2 w → Calls P f args w (fun e w' => e = .returned v0 ∧ Below w.heap.size w w'))
    (h2 : ∀ x, wpRel P ops C (DL l) Q rest (k + 1) (a.put o.dst v0) (g.upd k x)) : wpRel P ops C (DL l) Q (o :: rest) k a g :=
  rel_stepF hw (fun w hw' hk => by
    rw [run_callOp ho args hvs he w]
    exact ⟨rfl, (hc w hw' (hk k0 ok d x h0 hd (by simpa using hin) hx)).mono (fun e w' h => ⟨v0, h.1, h.2, by rw [DL_at hl]; rfl⟩)⟩) (fun v lo hi _ ⟨w, _, h⟩ => by rw [DL_at hl] at h; cases h; exact h2 _)
/-- The same of two. -/
theorem rel_callK2 (k0 k1 : Nat) (v0 : Value) (f : FuncId) (args : Array Value) (hl : l[k]? = some (dV v0)) (hw : Region.wanted o (yielded ops a.tmps) = true) {xs : Array Operand} {tys : Array TypeId} (ho : o.op = .call { callee := .value (.func f), args := xs, argTypes := tys }) (hvs : xs.toList.map a.eval = args.toList) (he : ∀ (args : Array Value) (w : World), (callFunc f args).run P w = .ok (.enter f args) w)
    {ok ok' : Oper} {d d' : Tmp} {x x' : Nat × Nat × (World → Prop)} (h0 : ops[k0]? = some ok) (hd : ok.dst = some d) (hin : (o.looksAt ops).contains d = true) (hx : g k0 = some x)
    (h0' : ops[k1]? = some ok') (hd' : ok'.dst = some d') (hin' : (o.looksAt ops).contains d' = true) (hx' : g k1 = some x')
    (hc : ∀ w, C w → x.2.2 w → x'.2.2 w → Calls P f args w (fun e w' => e = .returned v0 ∧ Below w.heap.size w w'))
    (h2 : ∀ x, wpRel P ops C (DL l) Q rest (k + 1) (a.put o.dst v0) (g.upd k x)) : wpRel P ops C (DL l) Q (o :: rest) k a g :=
  rel_stepF hw (fun w hw' hk => by
    rw [run_callOp ho args hvs he w]
    exact ⟨rfl, (hc w hw' (hk k0 ok d x h0 hd (by simpa using hin) hx) (hk k1 ok' d' x' h0' hd' (by simpa using hin') hx')).mono (fun e w' h => ⟨v0, h.1, h.2, by rw [DL_at hl]; rfl⟩)⟩) (fun v lo hi _ ⟨w, _, h⟩ => by rw [DL_at hl] at h; cases h; exact h2 _)
/-- A call that reads what the operation k0 has left, and whose answer is told by what holds of it. -/
theorem rel_callKP (k0 : Nat) (p : Value → Nat → Nat → World → Prop) (f : FuncId) (args : Array Value) (hl : l[k]? = some (dP p)) (hw : Region.wanted o (yielded ops a.tmps) = true) {xs : Array Operand} {tys : Array TypeId} (ho : o.op = .call { callee := .value (.func f), args := xs, argTypes := tys }) (hvs : xs.toList.map a.eval = args.toList) (he : ∀ (args : Array Value) (w : World), (callFunc f args).run P w = .ok (.enter f args) w)
    {ok : Oper} {d : Tmp} {x : Nat × Nat × (World → Prop)} (h0 : ops[k0]? = some ok) (hd : ok.dst = some d) (hin : (o.looksAt ops).contains d = true) (hx : g k0 = some x)
    (hc : ∀ w, C w → x.2.2 w → Calls P f args w (fun e w' => ∃ v, e = .returned v ∧ Below w.heap.size w w' ∧ ∀ w'', Below w'.heap.size w' w'' → p v w.heap.size w'.heap.size w''))
    (h2 : ∀ v lo hi, lo ≤ hi → (∃ w, C w ∧ p v lo hi w) → wpRel P ops C (DL l) Q rest (k + 1) (a.put o.dst v) (g.upd k (lo, hi, dP p (readBy o a) v lo hi))) : wpRel P ops C (DL l) Q (o :: rest) k a g :=
  rel_stepF hw (fun w hw' hk => by
    rw [run_callOp ho args hvs he w]
    exact ⟨rfl, (hc w hw' (hk k0 ok d x h0 hd (by simpa using hin) hx)).mono (fun e w' h => by
      obtain ⟨v, he, hb, hp⟩ := h
      exact ⟨v, he, hb, by rw [DL_at hl]; exact ⟨hp w' (Below.refl _ _), hp⟩⟩)⟩) (fun v lo hi hle ⟨w, hw', h⟩ => by
    have e : DL l k (readBy o a) v lo hi = dP p (readBy o a) v lo hi := by funext w; exact DL_at hl _ _ _ _ _
    rw [e]
    rw [DL_at hl] at h
    exact h2 v lo hi hle ⟨w, hw', h.1⟩)
end
theorem Mem.init {w0 w : World} {L : List Ent} {e : Ent} (H : Mem w0 w (L ++ [e])) : Mem w0 w L := by
  have key : ∀ i (x : Ent), L[i]? = some x → (L ++ [e])[i]? = some x := fun i x h => by
    rw [List.getElem?_append_left (List.getElem?_eq_some_iff.1 h).1]; exact h
  exact ⟨H.below, fun i x h => H.blk i x (key i x h), fun i j x y hx hy hij => H.apart i j x y (key i x hx) (key j y hy) hij⟩
end
end Go.Proofs.YtpplakfmdjajiaaDoor
