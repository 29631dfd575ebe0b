/-
  A region that draws its order, whose operations yield values told ahead (as relations of what they read), each in every world of a class that is closed under growth; some of them make memory: one walk in the order of the text serves every order; behind it a chain of operations in their order.
-/
import Derived.StillTail
import Derived.Deep.Quiet
import Derived.Below
namespace Go.Proofs.YtpplakfmdjajiaaDoor
open Go Go.RowKit

section
variable {P : Program} {ops : Array Oper} {md : Region.Mode} {C : World → Prop}

/-- What an operation leaves: a value, the blocks that it made (from lo up to hi), and what is true of the world from then on. -/
abbrev RelD := Nat → Array Value → Value → Nat → Nat → World → Prop
/-- What has been left so far, by the operations' numbers. -/
abbrev Left := Nat → Option (Nat × Nat × (World → Prop))
def Left.upd (g : Left) (i : Nat) (x : Nat × Nat × (World → Prop)) : Left := fun j => if j = i then some x else g j
theorem Left.upd_comm (g : Left) {i j : Nat} (x y : Nat × Nat × (World → Prop)) (h : i ≠ j) : (g.upd i x).upd j y = (g.upd j y).upd i x := by
  funext k; unfold Left.upd
  by_cases hi : k = i <;> by_cases hj : k = j <;> simp [hi, hj]
  · exact absurd (hi.symm.trans hj) h
  · subst hi; intro e; exact absurd e h
  · subst hj; intro e; exact absurd e.symm h

def relUpon (P : Program) (w : World) (R : Value → Nat → Nat → World → Prop) : Result Next → Prop
  | .ok (.value u) w' => Below w.heap.size w w' ∧ R u w.heap.size w'.heap.size w'
  | .ok .skip w' => Below w.heap.size w w' ∧ R undef w.heap.size w'.heap.size w'
  | .ok (.enter f args) w' => w' = w ∧ Calls P f args w (fun e w'' => ∃ u, e = .returned u ∧ Below w.heap.size w w'' ∧ R u w.heap.size w''.heap.size w'')
  | _ => False
def readBy (o : Oper) (a : Act) : Array Value := o.op.operands.map a.eval
/-- What is known of the values that an operation reads. -/
def Known (ops : Array Oper) (o : Oper) (g : Left) (w : World) : Prop := ∀ k ok d x, ops[k]? = some ok → ok.dst = some d → d ∈ o.looksAt ops → g k = some x → x.2.2 w
/-- All that has been left holds. -/
def Facts (g : Left) (w : World) : Prop := ∀ k x, g k = some x → x.2.1 ≤ w.heap.size ∧ x.2.2 w
def GStay (g : Left) : Prop := ∀ k x, g k = some x → ∀ w w', x.2.2 w → x.2.1 ≤ w.heap.size → Below w.heap.size w w' → x.2.2 w'
structure Good (C : World → Prop) (g : Left) : Prop where
  ex : ∃ w, C w ∧ Facts g w
  stay : GStay g
/-- In every world of the class the operation goes as told. -/
def GoesAs (P : Program) (C : World → Prop) (D : RelD) (i : Nat) (o : Oper) (a : Act) : Prop := ∀ w, C w → relUpon P w (D i (readBy o a)) ((execOp a.eval o).run P w)
/-- The same, where what it reads is as it was left. -/
def GoesF (P : Program) (ops : Array Oper) (C : World → Prop) (D : RelD) (i : Nat) (o : Oper) (a : Act) (g : Left) : Prop := ∀ w, C w → Known ops o g w → relUpon P w (D i (readBy o a)) ((execOp a.eval o).run P w)
def Valid (C : World → Prop) (D : RelD) (i : Nat) (o : Oper) (a : Act) (g : Left) (v : Value) (lo hi : Nat) : Prop := lo ≤ hi ∧ ∃ w, C w ∧ Facts (g.upd i (lo, hi, D i (readBy o a) v lo hi)) w
def RunsOk (P : Program) (ops : Array Oper) (C : World → Prop) (D : RelD) (i : Nat) (o : Oper) (a : Act) (g : Left) : Prop := Region.wanted o (yielded ops a.tmps) = true → GoesF P ops C D i o a g
def NextR (ops : Array Oper) (C : World → Prop) (D : RelD) (i : Nat) (o : Oper) (K : Act → Left → Prop) (a : Act) (g : Left) : Prop :=
  if Region.wanted o (yielded ops a.tmps) then ∀ v lo hi, Valid C D i o a g v lo hi → K (a.put o.dst v) (g.upd i (lo, hi, D i (readBy o a) v lo hi)) else K (a.put o.dst undef) g
def relOp (P : Program) (ops : Array Oper) (C : World → Prop) (D : RelD) (i : Nat) (K : Act → Left → Prop) (a : Act) (g : Left) : Prop :=
  match ops[i]? with
  | none => K a g
  | some o => RunsOk P ops C D i o a g ∧ NextR ops C D i o K a g
/-- What comes of g by an operation. -/
def Comes (C : World → Prop) (D : RelD) (i : Nat) (o : Oper) (a : Act) (g g' : Left) : Prop := g' = g ∨ ∃ v lo hi, Valid C D i o a g v lo hi ∧ g' = g.upd i (lo, hi, D i (readBy o a) v lo hi)

theorem Left.upd_at (g : Left) (i : Nat) (x : Nat × Nat × (World → Prop)) : g.upd i x i = some x := by unfold Left.upd; rw [if_pos rfl]
theorem Left.upd_ne (g : Left) {i k : Nat} (x : Nat × Nat × (World → Prop)) (h : k ≠ i) : g.upd i x k = g k := by unfold Left.upd; rw [if_neg h]
theorem NextR.mono' {D : RelD} {i : Nat} {o : Oper} {K K' : Act → Left → Prop} {a : Act} {g : Left} (h : ∀ a' g', Comes C D i o a g g' → K a' g' → K' a' g') (hh : NextR ops C D i o K a g) : NextR ops C D i o K' a g := by
  unfold NextR at *
  split
  · rename_i hw; rw [if_pos hw] at hh; exact fun v lo hi hv => h _ _ (.inr ⟨v, lo, hi, hv, rfl⟩) (hh v lo hi hv)
  · rename_i hw; rw [if_neg hw] at hh; exact h _ _ (.inl rfl) hh
theorem NextR.mono {D : RelD} {i : Nat} {o : Oper} {K K' : Act → Left → Prop} {a : Act} {g : Left} (h : ∀ a g, K a g → K' a g) (hh : NextR ops C D i o K a g) : NextR ops C D i o K' a g := hh.mono' (fun a' g' _ => h a' g')
theorem relOp_mono' {D : RelD} {i : Nat} {K K' : Act → Left → Prop} {a : Act} {g : Left} (h : ∀ a' g', (g' = g ∨ ∃ o, ops[i]? = some o ∧ Comes C D i o a g g') → K a' g' → K' a' g') (hh : relOp P ops C D i K a g) : relOp P ops C D i K' a g := by
  unfold relOp at *
  split
  · rename_i ho; simp only [ho] at hh; exact h _ _ (.inl rfl) hh
  · rename_i o ho; simp only [ho] at hh; exact ⟨hh.1, hh.2.mono' (fun a' g' hc => h a' g' (.inr ⟨o, ho, hc⟩))⟩

/-- What holds of the world. -/
structure Inv (C : World → Prop) (base : Nat) (g : Left) (w : World) : Prop where
  cls : C w
  ge : base ≤ w.heap.size
  fact : ∀ i x, g i = some x → base ≤ x.1 ∧ x.1 ≤ x.2.1 ∧ x.2.1 ≤ w.heap.size ∧ x.2.2 w
  stay : ∀ i x, g i = some x → ∀ w w', x.2.2 w → x.2.1 ≤ w.heap.size → Below w.heap.size w w' → x.2.2 w'
  apart : ∀ i j x y, g i = some x → g j = some y → i ≠ j → x.2.1 ≤ y.1 ∨ y.2.1 ≤ x.1
def Grows (C : World → Prop) : Prop := ∀ w w', C w → Below w.heap.size w w' → C w'
def Stays (D : RelD) : Prop := ∀ i vs v lo hi w w', D i vs v lo hi w → hi ≤ w.heap.size → Below w.heap.size w w' → D i vs v lo hi w'

theorem Inv.facts {base : Nat} {g : Left} {w : World} (h : Inv C base g w) : Facts g w := fun k x hx => (h.fact k x hx).2.2
theorem Facts.known {g : Left} {w : World} {o : Oper} (h : Facts g w) : Known ops o g w := fun k _ _ x _ _ _ hx => (h k x hx).2
theorem Inv.grow {base : Nat} {g : Left} {w w' : World} (hC : Grows C) (h : Inv C base g w) (hb : Below w.heap.size w w') : Inv C base g w' :=
  ⟨hC _ _ h.cls hb, Nat.le_trans h.ge hb.size, fun i x hx => ⟨(h.fact i x hx).1, (h.fact i x hx).2.1, Nat.le_trans (h.fact i x hx).2.2.1 hb.size, h.stay i x hx w w' (h.fact i x hx).2.2.2 (h.fact i x hx).2.2.1 hb⟩, h.stay, h.apart⟩
theorem Inv.put {base : Nat} {g : Left} {w w' : World} {D : RelD} {i : Nat} {vs : Array Value} {v : Value} (hC : Grows C) (hD : Stays D) (h : Inv C base g w) (hb : Below w.heap.size w w') (hv : D i vs v w.heap.size w'.heap.size w') :
    Inv C base (g.upd i (w.heap.size, w'.heap.size, D i vs v w.heap.size w'.heap.size)) w' := by
  have h' := h.grow hC hb
  have key : ∀ j x, (g.upd i (w.heap.size, w'.heap.size, D i vs v w.heap.size w'.heap.size)) j = some x → (j = i ∧ x = (w.heap.size, w'.heap.size, D i vs v w.heap.size w'.heap.size)) ∨ (j ≠ i ∧ g j = some x) := fun j x hx => by
    unfold Left.upd at hx
    split at hx
    · exact .inl ⟨by assumption, (Option.some.inj hx).symm⟩
    · exact .inr ⟨by assumption, hx⟩
  refine ⟨h'.cls, h'.ge, fun j x hx => ?_, fun j x hx => ?_, fun j k x y hx hy hjk => ?_⟩
  · rcases key j x hx with ⟨_, rfl⟩ | ⟨_, hx⟩
    · exact ⟨h.ge, hb.size, Nat.le_refl _, hv⟩
    · exact h'.fact j x hx
  · rcases key j x hx with ⟨_, rfl⟩ | ⟨_, hx⟩
    · exact fun w1 w2 => hD i vs v _ _ w1 w2
    · exact h'.stay j x hx
  · rcases key j x hx with ⟨hj, rfl⟩ | ⟨hj, hx⟩ <;> rcases key k y hy with ⟨hk, rfl⟩ | ⟨hk, hy⟩
    · exact absurd (hj.trans hk.symm) hjk
    · exact .inr (h.fact k y hy).2.2.1
    · exact .inl (h.fact j x hx).2.2.1
    · exact h.apart j k x y hx hy hjk

/-- The walk in the order of the text. -/
def wpRel (P : Program) (ops : Array Oper) (C : World → Prop) (D : RelD) (Q : Act → Left → Prop) : List Oper → Nat → Act → Left → Prop
  | [], _, a, g => Q a g
  | o :: rest, k, a, g => RunsOk P ops C D k o a g ∧ NextR ops C D k o (wpRel P ops C D Q rest (k + 1)) a g

theorem relOp_first {D : RelD} {i : Nat} {oi : Oper} {K : Act → Left → Prop} {a : Act} {g : Left} (hi : ops[i]? = some oi) (h1 : RunsOk P ops C D i oi a g) (h2 : NextR ops C D i oi K a g) : relOp P ops C D i K a g := by
  unfold relOp; simp only [hi]; exact ⟨h1, h2⟩

theorem facts_put {D : RelD} {i : Nat} {o : Oper} {a : Act} {g : Left} {w w' : World} {u : Value} (hs : GStay g) (hf : Facts g w) (hb : Below w.heap.size w w') (hR : D i (readBy o a) u w.heap.size w'.heap.size w') :
    Facts (g.upd i (w.heap.size, w'.heap.size, D i (readBy o a) u w.heap.size w'.heap.size)) w' := fun k x hx => by
  unfold Left.upd at hx
  split at hx
  · cases hx; exact ⟨Nat.le_refl _, hR⟩
  · exact ⟨Nat.le_trans (hf k x hx).1 hb.size, hs k x hx w w' (hf k x hx).2 (hf k x hx).1 hb⟩
theorem valid_of_goes {D : RelD} {i : Nat} {o : Oper} {a : Act} {g : Left} (hC : Grows C) (hG : Good C g) (h : GoesF P ops C D i o a g) : ∃ v lo hi, Valid C D i o a g v lo hi := by
  obtain ⟨w, hw, hf⟩ := hG.ex
  have h1 := h w hw hf.known
  unfold relUpon at h1
  generalize (execOp a.eval o).run P w = r at h1
  match r, h1 with
  | .ok (.value u) w', ⟨hb, hR⟩ => exact ⟨u, _, _, hb.size, w', hC _ _ hw hb, facts_put hG.stay hf hb hR⟩
  | .ok .skip w', ⟨hb, hR⟩ => exact ⟨undef, _, _, hb.size, w', hC _ _ hw hb, facts_put hG.stay hf hb hR⟩
  | .ok (.enter f args) w', ⟨_, hc⟩ =>
    obtain ⟨e, w2, fr, ⟨u, _, hb, hR⟩, _⟩ := hc []
    exact ⟨u, _, _, hb.size, w2, hC _ _ hw hb, facts_put hG.stay hf hb hR⟩
theorem good_of {D : RelD} {i : Nat} {o : Oper} {a : Act} {g g' : Left} (hD : Stays D) (hG : Good C g) (h : Comes C D i o a g g') : Good C g' := by
  rcases h with rfl | ⟨v, lo, hi, ⟨_, hw⟩, rfl⟩
  · exact hG
  · refine ⟨hw, fun k x hx => ?_⟩
    unfold Left.upd at hx
    split at hx
    · cases hx; exact fun w w' => hD i _ v lo hi w w'
    · exact hG.stay k x hx
theorem none_of {D : RelD} {i : Nat} {o : Oper} {a : Act} {g g' : Left} {k : Nat} (h : Comes C D i o a g g') (hk : k ≠ i) (hg : g k = none) : g' k = none := by
  rcases h with rfl | ⟨v, lo, hi, _, rfl⟩
  · exact hg
  · rw [Left.upd_ne _ _ hk]; exact hg

theorem readBy_put {o : Oper} (a : Act) (dst : Option Tmp) (v : Value) (h : ∀ d, dst = some d → d ∉ o.looksAt ops) : readBy o (a.put dst v) = readBy o a := by
  unfold readBy
  refine Array.map_congr_left fun x hx => Act.eval_put fun d hd hxd => h d hd (by
    subst hxd
    exact List.mem_append_left _ (List.mem_filterMap.2 ⟨.tmp d, by simpa using hx, rfl⟩))
theorem known_upd {o oi : Oper} {i : Nat} {g : Left} {x : Nat × Nat × (World → Prop)} {w : World} (hi : ops[i]? = some oi) (h : ∀ d, oi.dst = some d → d ∉ o.looksAt ops) : Known ops o (g.upd i x) w ↔ Known ops o g w := by
  have ne : ∀ k ok d, ops[k]? = some ok → ok.dst = some d → d ∈ o.looksAt ops → k ≠ i := fun k ok d h1 h2 h3 e => by
    subst e; rw [hi] at h1; cases h1; exact h d h2 h3
  constructor
  · intro hk k ok d y h1 h2 h3 h4
    exact hk k ok d y h1 h2 h3 (by rw [Left.upd_ne _ _ (ne k ok d h1 h2 h3)]; exact h4)
  · intro hk k ok d y h1 h2 h3 h4
    rw [Left.upd_ne _ _ (ne k ok d h1 h2 h3)] at h4
    exact hk k ok d y h1 h2 h3 h4
theorem goesF_put {D : RelD} {i : Nat} {o : Oper} (hs : ∀ cs b, o.op ≠ .select cs b) (a : Act) (g : Left) (dst : Option Tmp) (v : Value) (h : ∀ d, dst = some d → d ∉ o.looksAt ops) : GoesF P ops C D i o (a.put dst v) g ↔ GoesF P ops C D i o a g := by
  unfold GoesF; rw [readBy_put a dst v h, execOp_put o hs a dst v h]
theorem runsOk_put {D : RelD} {i : Nat} {o : Oper} (hs : ∀ cs b, o.op ≠ .select cs b) (a : Act) (g : Left) (dst : Option Tmp) (v : Value) (h : ∀ d, dst = some d → d ∉ o.looksAt ops) : RunsOk P ops C D i o (a.put dst v) g ↔ RunsOk P ops C D i o a g := by
  unfold RunsOk; rw [goesF_put hs a g dst v h, wanted_put o a dst v h]
theorem runsOk_upd {D : RelD} {i j : Nat} {o oj : Oper} (a : Act) (g : Left) (x : Nat × Nat × (World → Prop)) (hj : ops[j]? = some oj) (h : ∀ d, oj.dst = some d → d ∉ o.looksAt ops) : RunsOk P ops C D i o a (g.upd j x) ↔ RunsOk P ops C D i o a g := by
  unfold RunsOk GoesF
  constructor
  · exact fun h1 hw w hc hk => h1 hw w hc ((known_upd hj h).2 hk)
  · exact fun h1 hw w hc hk => h1 hw w hc ((known_upd hj h).1 hk)
theorem valid_put {D : RelD} {i : Nat} {o : Oper} (a : Act) (g : Left) (dst : Option Tmp) (v : Value) (h : ∀ d, dst = some d → d ∉ o.looksAt ops) (u : Value) (lo hi : Nat) : Valid C D i o (a.put dst v) g u lo hi ↔ Valid C D i o a g u lo hi := by
  unfold Valid; rw [readBy_put a dst v h]
theorem facts_less {g : Left} {i j : Nat} {x y : Nat × Nat × (World → Prop)} {w : World} (hij : i ≠ j) (hgj : g j = none) (h : Facts ((g.upd j y).upd i x) w) : Facts (g.upd i x) w := fun k z hz => by
  by_cases hki : k = i
  · subst hki; exact h k z (by rw [Left.upd_at] at hz ⊢; exact hz)
  · by_cases hkj : k = j
    · subst hkj; rw [Left.upd_ne _ _ hki, hgj] at hz; cases hz
    · exact h k z (by rw [Left.upd_ne _ _ hki] at hz ⊢; rw [Left.upd_ne _ _ hkj]; exact hz)

/-- Two operations that are apart change places. -/
theorem relOp_swap {D : RelD} {i j : Nat} {oi oj : Oper} (hC : Grows C) (hij : i ≠ j) (hi : ops[i]? = some oi) (hj : ops[j]? = some oj) (hap : oi.apart ops oj = true)
    (hsi : ∀ cs b, oi.op ≠ .select cs b) (hsj : ∀ cs b, oj.op ≠ .select cs b) {K : Act → Left → Prop} {a : Act} {g : Left} (hG : Good C g) (_hgi : g i = none) (hgj : g j = none)
    (h1 : RunsOk P ops C D i oi a g) (h2 : NextR ops C D i oi (relOp P ops C D j K) a g) :
    relOp P ops C D j (fun a' g' => RunsOk P ops C D i oi a' g' ∧ NextR ops C D i oi K a' g') a g := by
  obtain ⟨q1, q2, q3⟩ := Oper.apart_spec hap
  by_cases hwi : Region.wanted oi (yielded ops a.tmps) = true
  · unfold NextR at h2
    rw [if_pos hwi] at h2
    obtain ⟨v0, lo0, hi0, hv0⟩ := valid_of_goes hC hG (h1 hwi)
    have hjj := h2 v0 lo0 hi0 hv0
    unfold relOp at hjj ⊢
    simp only [hj] at hjj ⊢
    refine ⟨(runsOk_put hsj a g oi.dst v0 q1).1 ((runsOk_upd _ g _ hi q1).1 hjj.1), ?_⟩
    unfold NextR
    split
    · rename_i hwj
      intro u lo hi2 hu
      refine ⟨(runsOk_upd _ g _ hj q3).2 ((runsOk_put hsi a g oj.dst u q3).2 h1), ?_⟩
      rw [wanted_put oi a oj.dst u q3, if_pos hwi]
      intro v lo' hi' hv
      have hv0 := (valid_put a _ oj.dst u q3 v lo' hi').1 hv
      have hv' : Valid C D i oi a g v lo' hi' := by
        obtain ⟨hle, w, hw, hf⟩ := hv0
        exact ⟨hle, w, hw, facts_less hij hgj hf⟩
      have hu' : Valid C D j oj a (g.upd i (lo', hi', D i (readBy oi a) v lo' hi')) u lo hi2 := by
        obtain ⟨hle, w, hw, hf⟩ := hv0
        refine ⟨hu.1, w, hw, ?_⟩
        rw [Left.upd_comm g _ _ hij]; exact hf
      have h3 := h2 v lo' hi' hv'
      unfold relOp at h3
      simp only [hj] at h3
      have h4 := h3.2
      unfold NextR at h4
      rw [wanted_put oj a oi.dst v q1, if_pos hwj] at h4
      have h5 := h4 u lo hi2 ((valid_put a _ oi.dst v q1 u lo hi2).2 hu')
      rw [readBy_put a oi.dst v q1, Act.put_comm a v u q2, Left.upd_comm g _ _ hij] at h5
      rw [readBy_put a oj.dst u q3]
      exact h5
    · rename_i hwj
      refine ⟨(runsOk_put hsi a g oj.dst undef q3).2 h1, ?_⟩
      rw [wanted_put oi a oj.dst undef q3, if_pos hwi]
      intro v lo' hi' hv
      have hv' := (valid_put a g oj.dst undef q3 v lo' hi').1 hv
      have h3 := h2 v lo' hi' hv'
      unfold relOp at h3
      simp only [hj] at h3
      have h4 := h3.2
      unfold NextR at h4
      rw [wanted_put oj a oi.dst v q1, if_neg hwj, Act.put_comm a v undef q2] at h4
      rw [readBy_put a oj.dst undef q3]
      exact h4
  · unfold NextR at h2
    rw [if_neg hwi] at h2
    unfold relOp at h2 ⊢
    simp only [hj] at h2 ⊢
    refine ⟨(runsOk_put hsj a g oi.dst undef q1).1 h2.1, ?_⟩
    have h4 := h2.2
    unfold NextR at h4 ⊢
    rw [wanted_put oj a oi.dst undef q1] at h4
    split
    · rename_i hwj
      rw [if_pos hwj] at h4
      intro u lo hi2 hu
      refine ⟨(runsOk_upd _ g _ hj q3).2 ((runsOk_put hsi a g oj.dst u q3).2 h1), ?_⟩
      rw [wanted_put oi a oj.dst u q3, if_neg hwi, ← Act.put_comm a undef u q2]
      have h5 := h4 u lo hi2 ((valid_put a g oi.dst undef q1 u lo hi2).2 hu)
      rw [readBy_put a oi.dst undef q1] at h5
      exact h5
    · rename_i hwj
      rw [if_neg hwj] at h4
      refine ⟨(runsOk_put hsi a g oj.dst undef q3).2 h1, ?_⟩
      rw [wanted_put oi a oj.dst undef q3, if_neg hwi, ← Act.put_comm a undef undef q2]
      exact h4

/-- Whatever order is picked from here on, up to f operations, all below n; then L. -/
def wpAnyR (P : Program) (md : Region.Mode) (ops : Array Oper) (C : World → Prop) (D : RelD) (n : Nat) (L : Array Bool → Act → Left → Prop) : Nat → Array Bool → Act → Left → Prop
  | 0, listed, a, g => L listed a g
  | f + 1, listed, a, g =>
    Region.ready md ops listed ≠ [] ∧ ∀ i ∈ Region.ready md ops listed, i < n ∧ relOp P ops C D i (wpAnyR P md ops C D n L f (listed.setIfInBounds i true)) a g

theorem unlisted_set {listed : Array Bool} {i k : Nat} (hun : listed.getD i true = false) (hk : (listed.setIfInBounds i true).getD k true = false) : k ≠ i ∧ listed.getD k true = false := by
  by_cases hik : i = k
  · subst hik
    exfalso
    have hlt : i < listed.size := by
      rcases Nat.lt_or_ge i listed.size with h' | h'
      · exact h'
      · simp [Array.getElem?_eq_none h'] at hun
    simp [hlt] at hk
  · rw [getD_set_ne true hik] at hk
    exact ⟨fun e => hik e.symm, hk⟩

theorem wpAnyR_first {D : RelD} {n i : Nat} {oi : Oper} {L : Array Bool → Act → Left → Prop} (hC : Grows C) (hD : Stays D) (hi : ops[i]? = some oi) (hsel : ∀ (j : Nat) (o : Oper) cs b, ops[j]? = some o → o.op ≠ .select cs b)
    (hin : i < n) (hdone : ∀ listed a g, L listed a g → ∀ j ∈ Region.ready md ops listed, n ≤ j) (I : Array Bool → Prop)
    (hI : ∀ listed j, I listed → j ∈ Region.ready md ops listed → j < n → I (listed.setIfInBounds j true))
    (hlt : ∀ listed, I listed → i ∈ Region.ready md ops listed → ∀ j ∈ Region.ready md ops listed, j < n) :
    ∀ (f : Nat) (listed : Array Bool) (a : Act) (g : Left), I listed → Good C g → (∀ k, listed.getD k true = false → g k = none) →
      (∀ j oj, ops[j]? = some oj → j ≠ i → listed.getD j true = false → (∀ e ∈ oj.after, Region.binds md e = true → e.on ≠ i) → oi.apart ops oj = true) →
      i ∈ Region.ready md ops listed → RunsOk P ops C D i oi a g →
      NextR ops C D i oi (wpAnyR P md ops C D n L f (listed.setIfInBounds i true)) a g → wpAnyR P md ops C D n L (f + 1) listed a g := by
  intro f
  induction f with
  | zero =>
    intro listed a g inv hG hg _ hr hy H
    refine ⟨fun h => (by rw [h] at hr; cases hr), fun j hj => ⟨hlt listed inv hr j hj, ?_⟩⟩
    by_cases hji : j = i
    · subst hji; exact relOp_first hi hy H
    · exfalso
      have hjn := hlt listed inv hr j hj
      by_cases hwi : Region.wanted oi (yielded ops a.tmps) = true
      · obtain ⟨v0, lo0, hi0, hv0⟩ := valid_of_goes hC hG (hy hwi)
        unfold NextR at H; rw [if_pos hwi] at H
        have := hdone _ _ _ (H v0 lo0 hi0 hv0) j (ready_mono hj hji)
        omega
      · unfold NextR at H; rw [if_neg hwi] at H
        have := hdone _ _ _ H j (ready_mono hj hji)
        omega
  | succ f ih =>
    intro listed a g inv hG hg hfree hr hy H
    refine ⟨fun h => (by rw [h] at hr; cases hr), fun j hj => ⟨hlt listed inv hr j hj, ?_⟩⟩
    by_cases hji : j = i
    · subst hji; exact relOp_first hi hy H
    · have hjn := hlt listed inv hr j hj
      obtain ⟨hjun, oj, hoj, hall⟩ := mem_ready.1 hj
      have hnot : ∀ e ∈ oj.after, Region.binds md e = true → e.on ≠ i := fun e he hb heq => by
        have h1 := hall e he hb
        have h0 := (mem_ready.1 hr).1
        rw [heq, getD_both h0] at h1
        cases h1
      have h1 : NextR ops C D i oi (relOp P ops C D j (wpAnyR P md ops C D n L f ((listed.setIfInBounds i true).setIfInBounds j true))) a g :=
        H.mono fun a' g' h' => (h'.2 j (ready_mono hj hji)).2
      have h2 := relOp_swap hC (fun e => hji e.symm) hi hoj (hfree j oj hoj hji hjun hnot) (fun cs b => hsel i oi cs b hi) (fun cs b => hsel j oj cs b hoj) hG (hg i (mem_ready.1 hr).1) (hg j hjun) hy h1
      have hfree' : ∀ k ok, ops[k]? = some ok → k ≠ i → (listed.setIfInBounds j true).getD k true = false →
          (∀ e ∈ ok.after, Region.binds md e = true → e.on ≠ i) → oi.apart ops ok = true := fun k ok hk hki hun hno => hfree k ok hk hki (unlisted_set hjun hun).2 hno
      refine relOp_mono' (fun a' g' hc h3 => ?_) h2
      have hG' : Good C g' := by
        rcases hc with rfl | ⟨o, _, hc⟩
        · exact hG
        · exact good_of hD hG hc
      have hg' : ∀ k, (listed.setIfInBounds j true).getD k true = false → g' k = none := fun k hk => by
        obtain ⟨hkj, hkl⟩ := unlisted_set hjun hk
        rcases hc with rfl | ⟨o, _, hc⟩
        · exact hg k hkl
        · exact none_of hc hkj (hg k hkl)
      refine ih (listed.setIfInBounds j true) a' g' (hI listed j inv hj hjn) hG' hg' hfree' (ready_mono hr (Ne.symm hji)) h3.1 ?_
      rw [Array.setIfInBounds_comm _ _ hji]
      exact h3.2

theorem wpAnyR_lex {D : RelD} {n gg : Nat} {Lq : Act → Left → Prop} (hC : Grows C) (hD : Stays D) (hsel : Region.noSelect ops = true) (I : Array Bool → Prop)
    (hI : ∀ listed j, I listed → j ∈ Region.ready md ops listed → j < n → I (listed.setIfInBounds j true))
    (hlt : ∀ listed i, I listed → i ∈ Region.ready md ops listed → i < n → ∀ j ∈ Region.ready md ops listed, j < n) :
    ∀ (l : List Oper) (k : Nat) (listed : Array Bool) (a : Act) (g : Left), (∀ j, j < l.length → l[j]? = ops[k + j]?) → k + l.length = n → I listed → Good C g → (∀ k, listed.getD k true = false → g k = none) →
    Region.lexHead md ops gg l.length k listed = true → wpRel P ops C D Lq l k a g →
    wpAnyR P md ops C D n (fun listed' a' g' => Region.seqB md ops gg n listed' = true ∧ Lq a' g') l.length listed a g
  | [], k, listed, a, g, _, hk, _, _, _, hB, h => by
    have : k = n := by simpa using hk
    subst this
    exact ⟨by simpa [Region.lexHead] using hB, h⟩
  | o :: l, k, listed, a, g, hl, hk, inv, hG, hg, hB, h => by
    have h0 : ops[k]? = some o := by simpa using (hl 0 (by simp)).symm
    simp only [List.length_cons, Region.lexHead, Bool.and_eq_true] at hB
    obtain ⟨⟨hr, hf⟩, hB'⟩ := hB
    have hkn : k < n := by simp only [List.length_cons] at hk; omega
    have hr' : k ∈ Region.ready md ops listed := by simpa using hr
    exact wpAnyR_first hC hD h0 (Region.noSelect_spec hsel) hkn (fun listed' a' g' hL => seqB_ready hL.1) I hI (fun listed hi' hr j hj => hlt listed k hi' hr hkn j hj) l.length listed a g inv hG hg (Region.free_spec h0 hf) hr' h.1
      (h.2.mono' fun a' g' hc h' => wpAnyR_lex hC hD hsel I hI hlt l (k + 1) _ _ _ (fun j hj => by have := hl (j + 1) (by simp; omega); simpa [Nat.add_assoc, Nat.add_comm 1 j] using this) (by simp only [List.length_cons] at hk; omega) (hI listed k inv hr' hkn) (good_of hD hG hc)
        (fun q hq => none_of hc (unlisted_set (mem_ready.1 hr').1 hq).1 (hg q (unlisted_set (mem_ready.1 hr').1 hq).2)) hB' h')

/-- It is a wpAny, from every world in which what has been left holds. -/
theorem wpAny_of_rel {D : RelD} {n gg base : Nat} {L : Array Bool → Act → Left → Prop} {Q' : Exit → Act → World → Prop} (hC : Grows C) (hD : Stays D)
    (hL : ∀ listed a g w, L listed a g → Inv C base g w → wpAny P md ops Q' gg listed a w) :
    ∀ (f : Nat) (listed : Array Bool) (a : Act) (g : Left) (w : World), (∀ i, listed.getD i true = false → g i = none) → Inv C base g w → wpAnyR P md ops C D n L f listed a g → wpAny P md ops Q' (f + gg) listed a w
  | 0, listed, a, g, w, _, inv, h => by rw [Nat.zero_add]; exact hL _ _ _ _ h inv
  | f + 1, listed, a, g, w, hg, inv, h => by
    rw [show f + 1 + gg = (f + gg) + 1 by omega]
    refine ⟨fun h0 => absurd h0 h.1, fun i hi => ?_⟩
    have h1 := (h.2 i hi).2
    have hun := (mem_ready.1 hi).1
    have hg1 : ∀ k, (listed.setIfInBounds i true).getD k true = false → k ≠ i ∧ g k = none := fun k hk => by
      by_cases hik : i = k
      · subst hik
        exfalso
        have hlt : i < listed.size := by
          rcases Nat.lt_or_ge i listed.size with h' | h'
          · exact h'
          · simp [Array.getElem?_eq_none h'] at hun
        simp [hlt] at hk
      · rw [getD_set_ne true hik] at hk
        exact ⟨fun e => hik e.symm, hg k hk⟩
    have hgu : ∀ x k, (listed.setIfInBounds i true).getD k true = false → (g.upd i x) k = none := fun x k hk => by
      unfold Left.upd; rw [if_neg (hg1 k hk).1]; exact (hg1 k hk).2
    unfold relOp at h1
    unfold wpOp
    split
    · rename_i ho
      simp only [ho] at h1
      exact wpAny_of_rel hC hD hL f _ _ _ _ (fun k hk => (hg1 k hk).2) inv h1
    · rename_i o ho
      simp only [ho] at h1
      obtain ⟨hr, hn⟩ := h1
      unfold NextR at hn
      split
      · rename_i hw
        rw [if_pos hw] at hn
        refine .inl ?_
        have h3 := hr hw w inv.cls inv.facts.known
        unfold Oper.wp
        unfold relUpon at h3
        generalize (execOp a.eval o).run P w = r at h3
        match r, h3 with
        | .ok (.value u) w', ⟨hb, hR⟩ =>
          simp only [Oper.upon]
          exact wpAny_of_rel hC hD hL f _ _ _ _ (hgu _) (inv.put hC hD hb hR) (hn u _ _ ⟨hb.size, w', hC _ _ inv.cls hb, (inv.put hC hD hb hR).facts⟩)
        | .ok .skip w', ⟨hb, hR⟩ =>
          simp only [Oper.upon]
          exact wpAny_of_rel hC hD hL f _ _ _ _ (hgu _) (inv.put hC hD hb hR) (hn undef _ _ ⟨hb.size, w', hC _ _ inv.cls hb, (inv.put hC hD hb hR).facts⟩)
        | .ok (.enter f' args) w', ⟨e, hc⟩ =>
          simp only [Oper.upon]
          rw [e]
          refine hc.mono fun e w2 ⟨u, he, hb, hR⟩ => ?_
          subst he
          exact wpAny_of_rel hC hD hL f _ _ _ _ (hgu _) (inv.put hC hD hb hR) (hn u _ _ ⟨hb.size, w2, hC _ _ inv.cls hb, (inv.put hC hD hb hR).facts⟩)
      · rename_i hw
        rw [if_neg hw] at hn
        exact wpAny_of_rel hC hD hL f _ _ _ _ (fun k hk => (hg1 k hk).2) inv hn

def Left.none : Left := fun _ => Option.none
theorem Inv.begin {w : World} (h : C w) : Inv C w.heap.size Left.none w := ⟨h, Nat.le_refl _, (fun _ _ h => by cases h), (fun _ _ h => by cases h), (fun _ _ _ _ h => by cases h)⟩

theorem Good.begin {w : World} (h : C w) : Good C Left.none := ⟨⟨w, h, fun _ _ h => by cases h⟩, fun _ _ h => by cases h⟩
/-- A REGION THAT DRAWS ITS ORDER: its first n operations go as D tells, in any order; the others, one behind the other, in theirs. -/
theorem wpAny_rel_tail {Q : Exit → Act → World → Prop} {a : Act} {w : World} {l : List Oper} (n : Nat) (D : RelD) (C : World → Prop) (hB : Region.lexTailB .any l.toArray n = true)
    (hC : Grows C) (hD : Stays D) (hc : C w.drew)
    (h : wpRel P l.toArray C D (fun a' g => ∀ w', Inv C w.heap.size g w' → wpList P l.toArray Q (l.drop n) a' w') (l.take n) 0 a Left.none) : wpAny P .any l.toArray Q l.toArray.size (Array.replicate l.toArray.size false) a { w with drawn := w.drawn + 1 } := by
  simp only [Region.lexTailB, Bool.and_eq_true, decide_eq_true_eq] at hB
  obtain ⟨⟨⟨⟨hsel, hn⟩, hs⟩, hch⟩, hlex⟩ := hB
  have hn' : n < l.length := by simpa using hn
  have htl : (l.take n).length = n := by simp; omega
  have hdl : (l.drop n).length = l.toArray.size - n := by simp
  have inv0 : HeadInv .any l.toArray n (Array.replicate l.toArray.size false) :=
    ⟨by simp, fun j oj _ hl => (by rw [getD_replicate_false] at hl; cases hl), fun t _ ht => getD_in (by simpa using ht) (getD_replicate_false _ _)⟩
  have H := wpAnyR_lex (md := .any) (P := P) (C := C) (D := D) (gg := l.toArray.size - n) (Lq := fun a' g => ∀ w', Inv C w.heap.size g w' → wpList P l.toArray Q (l.drop n) a' w') hC hD hsel (HeadInv .any l.toArray n)
    (fun listed j inv hj hjn => inv.set hj hjn)
    (fun listed i inv hr hin j hj => by
      rcases Nat.lt_or_ge j n with hlt | hge
      · exact hlt
      · exact absurd hj (tail_waits hs hch hn inv _ i rfl hin (mem_ready.1 hr).1 j hge))
    (l.take n) 0 _ a Left.none (fun j hj => by
      have hj' : j < n := by rw [htl] at hj; exact hj
      simp [hj']) (by simpa using htl) inv0 (Good.begin hc) (fun _ _ => rfl) (by rw [htl]; exact hlex) h
  have := wpAny_of_rel (Q' := Q) (base := w.heap.size) (gg := l.toArray.size - n) hC hD (fun listed a' g w' hL inv => by
    have := wpAny_of_seq (md := .any) (Q' := Q) (l.drop n) n listed a' w' (fun j => by simp [List.getElem?_drop]) (by rw [hdl]; exact hL.1) (hL.2 w' inv)
    rwa [hdl] at this) _ _ _ _ w.drew (fun _ _ => rfl) (Inv.begin (w := w.drew) hc) H
  rw [htl, show n + (l.toArray.size - n) = l.toArray.size by omega] at this
  exact this

theorem wp_region_rel_tail {id : Nat} {Q : Exit → Act → World → Prop} {a : Act} {w : World} {l : List Oper} (n : Nat) (D : RelD) (C : World → Prop) (hm : P.follows .mixedOrders = true) (hB : Region.lexTailB .any l.toArray n = true)
    (hC : Grows C) (hD : Stays D) (hc : C w.drew)
    (h : wpRel P l.toArray C D (fun a' g => ∀ w', Inv C w.heap.size g w' → wpList P l.toArray Q (l.drop n) a' w') (l.take n) 0 a Left.none) : (Code.region id l.toArray true).wp P Q a w :=
  wp_region_any hm (wpAny_rel_tail n D C hB hC hD hc h)

/-- The same where all operations go as D tells. -/
theorem wp_region_rel {id : Nat} {Q : Exit → Act → World → Prop} {a : Act} {w : World} {l : List Oper} (D : RelD) (C : World → Prop) (hm : P.follows .mixedOrders = true) (hB : Region.lexB .any l.toArray = true)
    (hC : Grows C) (hD : Stays D) (hc : C w.drew)
    (h : wpRel P l.toArray C D (fun a' g => ∀ w', Inv C w.heap.size g w' → Q .normal a' w') l 0 a Left.none) : (Code.region id l.toArray true).wp P Q a w := by
  simp only [Region.lexB, Bool.and_eq_true] at hB
  have hlex : ∀ (f k : Nat) (listed : Array Bool), Region.lexFrom .any l.toArray f k listed = true → Region.lexHead .any l.toArray 0 f k listed = true := by
    intro f
    induction f with
    | zero => intro k listed h; simpa [Region.lexHead, Region.seqB, Region.lexFrom] using h
    | succ f ih =>
      intro k listed h
      simp only [Region.lexFrom, Bool.and_eq_true] at h
      simp only [Region.lexHead, Bool.and_eq_true]
      exact ⟨h.1, ih _ _ h.2⟩
  have hsz : l.toArray.size = l.length := by simp
  have H := wpAnyR_lex (md := .any) (P := P) (C := C) (D := D) (n := l.length) (gg := 0) (Lq := fun a' g => ∀ w', Inv C w.heap.size g w' → Q .normal a' w') hC hD hB.1 (fun _ => True)
    (fun _ _ _ _ _ => trivial)
    (fun listed i _ hr hin j hj => by
      obtain ⟨_, o, ho, _⟩ := mem_ready.1 hj
      have := (Array.getElem?_eq_some_iff.1 ho).1
      simpa using this)
    l 0 _ a Left.none (fun j hj => by simp) (by simp) trivial (Good.begin hc) (fun _ _ => rfl) (hlex _ _ _ (by simpa using hB.2)) h
  refine wp_region_any hm ?_
  have := wpAny_of_rel (Q' := Q) (base := w.heap.size) (gg := 0) hC hD (fun listed a' g w' hL inv => by
    have h1 := hL.1
    simp only [Region.seqB, List.isEmpty_iff] at h1
    exact ⟨h1, hL.2 w' inv⟩) _ _ _ _ w.drew (fun _ _ => rfl) (Inv.begin (w := w.drew) hc) H
  simpa using this

/-! The steps of the walk. -/
theorem rel_nil {D : RelD} {Q : Act → Left → Prop} {k : Nat} {a : Act} {g : Left} (h : Q a g) : wpRel P ops C D Q [] k a g := h
theorem rel_step {D : RelD} {Q : Act → Left → Prop} {o : Oper} {rest : List Oper} {k : Nat} {a : Act} {g : Left} (hw : Region.wanted o (yielded ops a.tmps) = true) (h1 : GoesAs P C D k o a)
    (h2 : ∀ v lo hi, lo ≤ hi → (∃ w, C w ∧ D k (readBy o a) v lo hi w) → wpRel P ops C D Q rest (k + 1) (a.put o.dst v) (g.upd k (lo, hi, D k (readBy o a) v lo hi))) : wpRel P ops C D Q (o :: rest) k a g :=
  ⟨fun _ w hc _ => h1 w hc, by unfold NextR; rw [if_pos hw]; exact fun v lo hi hv => h2 v lo hi hv.1 (by obtain ⟨w, hc, hf⟩ := hv.2; exact ⟨w, hc, (hf k _ (Left.upd_at _ _ _)).2⟩)⟩
/-- The same, where it goes by what is known of what it reads; the facts that were left hold together. -/
theorem rel_stepF {D : RelD} {Q : Act → Left → Prop} {o : Oper} {rest : List Oper} {k : Nat} {a : Act} {g : Left} (hw : Region.wanted o (yielded ops a.tmps) = true) (h1 : GoesF P ops C D k o a g)
    (h2 : ∀ v lo hi, lo ≤ hi → (∃ w, C w ∧ D k (readBy o a) v lo hi w) → wpRel P ops C D Q rest (k + 1) (a.put o.dst v) (g.upd k (lo, hi, D k (readBy o a) v lo hi))) : wpRel P ops C D Q (o :: rest) k a g :=
  ⟨fun _ => h1, by unfold NextR; rw [if_pos hw]; exact fun v lo hi hv => h2 v lo hi hv.1 (by obtain ⟨w, hc, hf⟩ := hv.2; exact ⟨w, hc, (hf k _ (Left.upd_at _ _ _)).2⟩)⟩
theorem rel_skip {D : RelD} {Q : Act → Left → Prop} {o : Oper} {rest : List Oper} {k : Nat} {a : Act} {g : Left} (hw : Region.wanted o (yielded ops a.tmps) = false)
    (h2 : wpRel P ops C D Q rest (k + 1) (a.put o.dst undef) g) : wpRel P ops C D Q (o :: rest) k a g :=
  ⟨(fun h => by rw [hw] at h; cases h), by unfold NextR; rw [if_neg (by rw [hw]; exact Bool.false_ne_true)]; exact h2⟩
/-- An operation that yields a value and leaves the world as it was. -/
theorem goes_value {D : RelD} {o : Oper} {k : Nat} {a : Act} (v : Value) (hr : ∀ w, C w → (execOp a.eval o).run P w = .ok (.value v) w) (hD : ∀ w, C w → D k (readBy o a) v w.heap.size w.heap.size w) : GoesAs P C D k o a := fun w hw => by
  rw [hr w hw]; exact ⟨Below.refl _ _, hD w hw⟩
/-- A call by its contract. -/
theorem goes_call {D : RelD} {o : Oper} {k : Nat} {a : Act} (f : FuncId) (args : Array Value) (hr : ∀ w, C w → (execOp a.eval o).run P w = .ok (.enter f args) w)
    (hc : ∀ w, C w → Calls P f args w (fun e w'' => ∃ u, e = .returned u ∧ Below w.heap.size w w'' ∧ D k (readBy o a) u w.heap.size w''.heap.size w'')) : GoesAs P C D k o a := fun w hw => by
  rw [hr w hw]; exact ⟨rfl, hc w hw⟩
/-- A new block. -/
theorem goes_alloc {D : RelD} {o : Oper} {k : Nat} {a : Act} (cs : Array Value) (t : TypeId) (hr : ∀ w, C w → (execOp a.eval o).run P w = .ok (.value (.pointer (some ⟨w.heap.size, 0, none⟩))) (w.alloc (.cells cs t)))
    (hD : ∀ w, C w → D k (readBy o a) (.pointer (some ⟨w.heap.size, 0, none⟩)) w.heap.size (w.heap.size + 1) (w.alloc (.cells cs t))) : GoesAs P C D k o a := fun w hw => by
  rw [hr w hw]; exact ⟨(Below.refl _ _).alloc (Nat.le_refl _) _, by rw [World.size_alloc]; exact hD w hw⟩
end
end Go.Proofs.YtpplakfmdjajiaaDoor
