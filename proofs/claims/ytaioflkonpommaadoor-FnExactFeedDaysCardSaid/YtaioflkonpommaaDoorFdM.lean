/-
  A range over an iterator that keeps a row of its own in memory and turns it between two rounds: the caller's invariant abides that row's turn.
  A flock that eats: the state behind each meal; how many meals there are; the visits.
  Memory beside a row that appends own: what lies below it abides its growth, and it abides a row's turn below it.
  The iterator over a flock's meals: it keeps the field that is left in a row of its own.
  A drawn region within a fence (a round), order by order: single steps; an append that owns its row as one of them; what a round of an iterator with a row of its own keeps.
  The program's feeding of a flock: the loop over its meals.
  The model's feeding of a flock.
  Feeding one flock: both sides.
-/
import Derived.Test.YtaioflkonpommaaDoorCoreA
import Derived.Test.YtaioflkonpommaaDoorEat
import Derived.Test.YtaioflkonpommaaDoorEbyS
import Derived.Test.YtaioflkonpommaaDoorLstM
import Derived.Test.YtaioflkonpommaaDoorEatI
import Derived.Test.YtaioflkonpommaaDoorRegIn
import Derived.Test.YtaioflkonpommaaDoorAny
import Derived.Test.YtaioflkonpommaaDoorChS
import Derived.RangeFuncNested
import Derived.OrdersIn
import Derived.Maps.AppendAt
namespace Go.Proofs.YtaioflkonpommaaDoor
section
open Go Go.RowKit

/-- An invariant that abides growth, and the turn of a block of type T at B or beyond. -/
def AbT {β : Type} (B : Nat) (T : TypeId) (J : β → World → Prop) : Prop :=
  ∀ s W W' row, J s W → W.grownBy W' row → (∀ r, row = some r → B ≤ r ∧ ∃ c, W.heap[r]? = some (.cells c T (0, 0))) → J s W'
theorem AbT.and {β : Type} {B : Nat} {T : TypeId} {J K : β → World → Prop} (h : AbT B T J) (k : AbT B T K) : AbT B T (fun s W => J s W ∧ K s W) := fun s W W' row hs hg hr => ⟨h s W W' row hs.1 hg hr, k s W W' row hs.2 hg hr⟩
theorem AbT.later {β : Type} {B B' : Nat} {T : TypeId} {J : β → World → Prop} (h : AbT B T J) (hB : B ≤ B') : AbT B' T J := fun s W W' row hs hg hr => h s W W' row hs hg (fun r e => ⟨Nat.le_trans hB (hr r e).1, (hr r e).2⟩)
theorem abT_noncell {β : Type} {B : Nat} {T : TypeId} {k : Nat} {o : Obj} (ho : o.isCells = false) : AbT B T (fun (_ : β) W => W.heap[k]? = some o) := fun s W W' row hs hg hr => by
  have hlt := (Array.getElem?_eq_some_iff.1 hs).1
  refine (hg.block k hlt (fun e => ?_)).trans hs
  obtain ⟨_, c, hc⟩ := hr k e.symm
  rw [hs] at hc
  cases hc
  cases ho
theorem abT_below {β : Type} {n0 B : Nat} {T : TypeId} {w0 : World} (hn : n0 ≤ w0.heap.size) (hB : n0 ≤ B) : AbT B T (fun (_ : β) W => Below n0 w0 W) :=
  fun _ _ _ _ hs hg hr => hs.grown hg (Nat.le_trans hn hs.size) (fun k e => Nat.le_trans hB (hr k e).1)

variable {F : Fence} {n : Nat} {P : Program}

theorem wpIn_rangeFunc_st {α : Type} {g : Operand} {ps : Array Tmp} {assign body : Code} {Q : Exit → Act → World → Prop} {a : Act} {w : World}
    (hro : F.round = none) (h1 : 1 ≤ n) {gf : Nat} {lb : Array Value} (hg : a.eval g = .func (.func gf) #[] lb) (hFg : F.fn gf) (eg : ∀ args w, (callFunc gf args).run P w = .ok (.enter gf args) w)
    {encs : α → Array Value} (hps : ∀ x, (encs x).size = ps.size) (T : TypeId) (Kp : World → World → Prop) (S Sp : List α → Prop) (N : Nat)
    (hseq : ∀ (l : Nat) (J Jx : List α → World → Prop) (W : World), Below w.heap.size w W → AbT W.heap.size T J → AbT W.heap.size T Jx →
      (∀ pre x W1, J pre W1 → pre.length < N → YieldAt F (n - 1 - 1) P l (encs x) W1 fun e W' => (e = .returned (.bool true) ∧ J (pre ++ [x]) W' ∧ Kp W1 W') ∨ (e = .returned (.bool false) ∧ Jx (pre ++ [x]) W')) →
      J [] W → CallsIn F (n - 1) P gf (#[.func (.yield l) #[] #[]] ++ lb) W fun e W' => (∃ v, e = .returned v) ∧ ((∃ xs, S xs ∧ J xs W') ∨ (∃ pre, Sp pre ∧ Jx pre W')))
    (hKb : ∀ (A C : World) (l : Nat) (o o' : Obj), w.heap.size ≤ l → Kp A C → C.heap[l]? = some o → o.isCells = false → Kp A (C.putObj l o'))
    (I : List α → World → Prop) (Ix : Code → List α → World → Prop) (hI : OwnFrom w.heap.size I) (hIx : ∀ c, OwnFrom w.heap.size (Ix c)) (hIs : AbT w.heap.size T I) (hIxs : ∀ c, AbT w.heap.size T (Ix c)) (h0 : I [] w)
    (Ax : World → List α → α → Act → World → Prop) (hAx : ∀ A pre x a', OwnFrom w.heap.size (fun (_ : Unit) W => Ax A pre x a' W))
    (hassign : ∀ (l : Nat) (pre : List α) (x : α) (W : World) (K : Act → World → Prop), I pre W → pre.length < N → (∀ a' W', KeepsFrom w.heap.size W W' → Ax W pre x a' W' → K a' W') →
      assign.wpIn (F.inRound l) (n - 1 - 1) P (Exit.then K (fun _ _ _ => False)) { tmps := (ps.zip (encs x)).foldl (fun t (p, v) => t.setIfInBounds p v) a.tmps, defers := [] } W)
    (hbody : ∀ (l : Nat) (pre : List α) (x : α) (A : World) (a' : Act) (W : World), Ax A pre x a' W → pre.length < N → body.wpIn (F.inRound l) (n - 1 - 1) P (ownPostG w.heap.size (fun _ C => Kp A C) I Ix (pre ++ [x]) W) a' W)
    (hdone : ∀ (D : Nat) (xs : List α) (W : World), w.heap.size ≤ D → S xs → I xs W → W.heap[D]? = some (.deferred (some [])) → Q .normal { a with defers := { target := .collected D, args := #[] } :: a.defers } W)
    (hstop : ∀ (D : Nat) (c : Code) (pre : List α) (W : World), w.heap.size ≤ D → Sp pre → Ix c pre W → W.heap[D]? = some (.deferred (some [])) → c.wpIn F n P Q { a with defers := { target := .collected D, args := #[] } :: a.defers } W) :
    (Code.rangeFunc g ps assign body).wpIn F n P Q a w := by
  refine wpIn_rangeFunc (fun fn hfn => ?_)
  rw [hro]
  -- the record in its states
  obtain ⟨rc, hrc⟩ : ∃ rc : LoopState → Option Code → Loop, ∀ s j, rc s j = { state := s, pending := j, fn := fn, tmps := a.tmps, params := ps, assign := assign, body := body, defers := w.heap.size } := ⟨_, fun _ _ => rfl⟩
  obtain ⟨D, hD⟩ : ∃ D, w.heap.size = D := ⟨_, rfl⟩
  obtain ⟨V, hV⟩ : ∃ V, (w.alloc (.deferred (some []))).alloc (.loop (rc .ready none)) = V := ⟨_, rfl⟩
  have vD : V.heap[D]? = some (.deferred (some [])) := by
    rw [← hV, ← hD]; exact (Below.heap_alloc _ _ _ (by simp)).trans (World.alloc_heap_new w _)
  have vL : V.heap[D + 1]? = some (.loop (rc .ready none)) := by
    have h := World.alloc_heap_new (w.alloc (.deferred (some []))) (.loop (rc .ready none))
    rw [World.size_alloc, hV, hD] at h
    exact h
  have vb : Below w.heap.size w V := by
    rw [← hV]; exact ((Below.refl _ w).alloc (Nat.le_refl _) _).alloc (by simp) _
  have vs : D ≤ V.heap.size := by rw [← hD]; exact vb.size
  have vI : I [] V := by rw [← hV]; exact hI.alloc _ (hI.alloc _ h0)
  have start : (Instr.enterLoop fn a.tmps ps assign body none).run P w = .ok (D + 1, [{ target := .collected D, args := #[] }]) V := by
    rw [run_enterLoop_outer, ← hV, hD, hrc, hD]
  -- a step on the record
  have turn : ∀ (W : World) (s : LoopState) (j : Option Code) (s' : LoopState) (j' : Option Code), W.heap[D + 1]? = some (.loop (rc s j)) → W.heap[D]? = some (.deferred (some [])) →
      (W.putObj (D + 1) (.loop (rc s' j'))).heap[D + 1]? = some (.loop (rc s' j')) ∧ (W.putObj (D + 1) (.loop (rc s' j'))).heap[D]? = some (.deferred (some [])) := fun W s j s' j' hl hk =>
    ⟨World.putObj_heap_same (Array.getElem?_eq_some_iff.1 hl).1, (World.putObj_heap_other (by omega)).trans hk⟩
  have hlD : w.heap.size ≤ D + 1 := by omega
  refine ⟨D + 1, _, V, { target := .fn (.func gf) lb, args := #[.func (.yield (D + 1)) #[] #[]] }, V, gf, #[.func (.yield (D + 1)) #[] #[]] ++ lb, V, start, ?_, ?_, ?_, fun _ => h1, ?_⟩
  · simp only [resolve, hg]; simp [go_sem]
  · intro f' hf'
    simp [Target.leads] at hf'
    exact hf' ▸ hFg
  · simp [invoke, go_sem, eg]
  refine (hseq (D + 1) (fun pre W => I pre W ∧ W.heap[D + 1]? = some (.loop (rc .ready none)) ∧ W.heap[D]? = some (.deferred (some [])))
    (fun pre W => ∃ c, Ix c pre W ∧ W.heap[D + 1]? = some (.loop (rc .done (some c))) ∧ W.heap[D]? = some (.deferred (some []))) V vb
    ((hIs.later (by omega)).and ((abT_noncell rfl).and (abT_noncell rfl)))
    (fun s A C row hs hgr hr => by
      obtain ⟨c, hc, hl, hk⟩ := hs
      exact ⟨c, (hIxs c).later (by omega) s A C row hc hgr hr, abT_noncell (β := List α) rfl s A C row hl hgr hr, abT_noncell (β := List α) rfl s A C row hk hgr hr⟩)
    ?_ ⟨vI, vL, vD⟩).mono ?_
  · rintro pre x W ⟨hi, hl, hk⟩ hlen
    have hy := run_yield (P := P) (args := encs x) hl (by rw [hrc]; exact hps x)
    rw [hrc] at hy
    refine ⟨fn, _, assign, body, hy, roundIn_of_wpIn hfn (hassign (D + 1) pre x W _ hi hlen (fun a' W' hkf hax => ?_))⟩
    have hl' := hkf.same (D + 1) _ (by omega) hl rfl
    have hk' := hkf.same D _ (by omega) hk rfl
    refine ⟨_, run_beginRound hl' (by rw [hrc]), ?_⟩
    have hput : Obj.loop { rc .ready none with state := .busy } = .loop (rc .busy none) := by rw [hrc, hrc]
    rw [hput]
    obtain ⟨hl2, hk2⟩ := turn W' _ _ .busy none hl' hk'
    have hax2 := (hAx W pre x a').putObj (s := ()) (.loop (rc .busy none)) hax hlD hl' rfl
    refine wpIn_mono (hbody (D + 1) pre x W a' _ hax2 hlen) ?_
    -- the round's end, by whichever way
    have fin : ∀ (jump : Option Code) (W3 : World), KeepsFrom w.heap.size (W'.putObj (D + 1) (.loop (rc .busy none))) W3 →
        ∃ s, (Instr.endRound (D + 1) jump).run P W3 = .ok (.bool jump.isNone) (W3.putObj (D + 1) (.loop (rc s jump))) ∧ s = (if jump.isNone then .ready else .done) ∧ W3.heap[D + 1]? = some (.loop (rc .busy none)) ∧
          (W3.putObj (D + 1) (.loop (rc s jump))).heap[D + 1]? = some (.loop (rc s jump)) ∧ (W3.putObj (D + 1) (.loop (rc s jump))).heap[D]? = some (.deferred (some [])) := fun jump W3 hk3 => by
      have l3 := hk3.same (D + 1) _ (by omega) hl2 rfl
      have k3 := hk3.same D _ (by omega) hk2 rfl
      obtain ⟨q1, q2⟩ := turn W3 _ _ (if jump.isNone then .ready else .done) jump l3 k3
      have hr := run_endRound (P := P) jump l3
      rw [show ({ rc .busy none with state := if jump.isNone then .ready else .done, pending := jump } : Loop) = rc (if jump.isNone then .ready else .done) jump by rw [hrc, hrc]] at hr
      exact ⟨_, hr, rfl, l3, q1, q2⟩
    rintro e a3 W3 hp
    cases e with
    | normal =>
      obtain ⟨hk3, hkp, hi3⟩ := hp
      obtain ⟨s, hr, hs, l3, q1, q2⟩ := fin none W3 hk3
      obtain rfl : s = .ready := hs
      exact ⟨_, _, hr, .inl ⟨rfl, ⟨hI.putObj _ hi3 hlD l3 rfl, q1, q2⟩, hKb _ _ _ _ _ hlD hkp l3 rfl⟩⟩
    | ret =>
      obtain ⟨hk3, hi3⟩ := hp
      obtain ⟨s, hr, hs, l3, q1, q2⟩ := fin (some .ret) W3 hk3
      obtain rfl : s = .done := hs
      exact ⟨_, _, hr, .inr ⟨rfl, _, (hIx _).putObj _ hi3 hlD l3 rfl, q1, q2⟩⟩
    | exit id =>
      obtain ⟨hk3, hi3⟩ := hp
      obtain ⟨s, hr, hs, l3, q1, q2⟩ := fin (some (.exit id)) W3 hk3
      obtain rfl : s = .done := hs
      exact ⟨_, _, hr, .inr ⟨rfl, _, (hIx _).putObj _ hi3 hlD l3 rfl, q1, q2⟩⟩
    | goto t =>
      obtain ⟨hk3, hi3⟩ := hp
      obtain ⟨s, hr, hs, l3, q1, q2⟩ := fin (some (.goto t)) W3 hk3
      obtain rfl : s = .done := hs
      exact ⟨_, _, hr, .inr ⟨rfl, _, (hIx _).putObj _ hi3 hlD l3 rfl, q1, q2⟩⟩
    | panic ch => exact hp.elim
    | outgrown => exact hp.elim
  · rintro e W2 ⟨⟨v, rfl⟩, (⟨xs, hS, hi, hl, hk⟩ | ⟨pre, hSp, c, hi, hl, hk⟩)⟩
    · have hr := run_endLoop (P := P) hl (by rw [hrc]; simp)
      rw [show (rc .ready none).pending = none by rw [hrc]] at hr
      exact ⟨none, _, hr, hdone D xs _ (by omega) hS (hI.putObj _ hi hlD hl rfl) ((World.putObj_heap_other (by omega)).trans hk)⟩
    · have hr := run_endLoop (P := P) hl (by rw [hrc]; simp)
      rw [show (rc .done (some c)).pending = some c by rw [hrc]] at hr
      exact ⟨some c, _, hr, hstop D c pre _ (by omega) hSp ((hIx c).putObj _ hi hlD hl rfl) ((World.putObj_heap_other (by omega)).trans hk)⟩
end
section
open Go Go.ChangeShapes Go.WideShapes Go.ChangeAt Go.RowKit

theorem meals_wld (f : Fd) (g a : Nat → Int) : ∀ n, n ≤ 100 → ∀ i, i < (mealsR f g a n).length → ∃ c : Nat, c < n ∧ isCell f (c : Int) = true ∧ wldQ f g a c = true ∧ (∀ j, rowsF (mealsR f g a n) i j = mealR f g a c j)
  | 0, _, i, hi => absurd hi (by simp [mealsR])
  | n + 1, hn, i, hi => by
    cases h : (isCell f (n : Int) && wldQ f g a n) with
    | true =>
      rw [mealsR_yes h] at hi ⊢
      simp only [Bool.and_eq_true] at h
      by_cases hl : i < (mealsR f g a n).length
      · obtain ⟨c, hc, h1, h2, h3⟩ := meals_wld f g a n (by omega) i hl
        exact ⟨c, by omega, h1, h2, fun j => by rw [rowsF_snoc hl]; exact h3 j⟩
      · obtain rfl : i = (mealsR f g a n).length := by simp at hi; omega
        exact ⟨n, by omega, h.1, h.2, fun j => rowsF_last _ _ j⟩
    | false =>
      rw [mealsR_no h] at hi ⊢
      obtain ⟨c, hc, h1, h2, h3⟩ := meals_wld f g a n (by omega) i hi
      exact ⟨c, by omega, h1, h2, h3⟩
/-- The cell that is chosen. -/
theorem meal_cell {f : Fd} (hok : okF f = true) {g a : Nat → Int} (hlen : (mealsR f g a 100).length ≠ 0) : ∃ n : Nat, n < 100 ∧ eaN f g a = n ∧ bL (a 5) (mealsR f g a 100) 0 = (n : Int) ∧ isCell f (n : Int) = true ∧ 0 < f.S n ∧ f.S n ≤ 1000 := by
  obtain ⟨i9, hi9, hb9⟩ := bL_mem (a 5) hlen
  obtain ⟨c9, hc9, hcell, hw, hrow⟩ := meals_wld f g a 100 (Nat.le_refl _) i9 hi9
  have hcv : bL (a 5) (mealsR f g a 100) 0 = (c9 : Int) := by rw [hb9, hrow 0]; rfl
  have hn : eaN f g a = c9 := by unfold eaN; rw [hcv]; rfl
  unfold wldQ at hw
  simp only [Bool.and_eq_true, decide_eq_true_eq] at hw
  simp only [okF, Bool.and_eq_true] at hok
  have h9 := allTo_iff.1 hok.2 c9 hc9
  simp only [cellOk, Bool.and_eq_true, inB_iff] at h9
  exact ⟨c9, hc9, hn, hcv, hcell, hw.1.1, h9.1.1.2.2⟩
/-- A field that has been eaten from is one still. -/
theorem eat_keeps {f : Fd} (hf : f.Wf) (hok : okF f = true) {n : Nat} (hn : n < 100) {s : Int} (h0 : 0 ≤ s) (hs : s ≤ f.S n) : okF (turned f n (f.K n) (f.S n - s)) = true ∧ (turned f n (f.K n) (f.S n - s)).Wf := by
  have hok0 := hok
  simp only [okF, Bool.and_eq_true] at hok
  have hn9 := allTo_iff.1 hok.2 n hn
  simp only [cellOk, Bool.and_eq_true, inB_iff] at hn9
  obtain ⟨s1, s2⟩ := hn9.1.1.2
  have eK : ∀ i, (turned f n (f.K n) (f.S n - s)).K i = f.K i := fun i => by
    show (if i = n then f.K n else f.K i) = f.K i
    split
    · rename_i h; rw [h]
    · rfl
  have eS : ∀ i, (turned f n (f.K n) (f.S n - s)).S i = if i = n then f.S n - s else f.S i := fun i => rfl
  refine ⟨?_, ⟨hf.W, hf.H, fun i hi => by rw [eK]; exact hf.K i hi, fun i hi => ?_⟩⟩
  · simp only [okF, Bool.and_eq_true]
    refine ⟨hok.1, allTo_iff.2 (fun i hi => ?_)⟩
    have h9 := allTo_iff.1 hok.2 i hi
    have e3 : isCell (turned f n (f.K n) (f.S n - s)) (i : Int) = isCell f (i : Int) := rfl
    unfold cellOk at h9 ⊢
    rw [eK, eS, e3]
    by_cases hin : i = n
    · subst hin
      rw [if_pos rfl]
      simp only [Bool.and_eq_true, Bool.or_eq_true, inB_iff, beq_iff_eq] at h9 ⊢
      obtain ⟨⟨⟨q1, q2⟩, q3⟩, q4⟩ := h9
      refine ⟨⟨⟨q1, by omega, by omega⟩, ?_⟩, ?_⟩
      · rcases q3 with q3 | q3
        · exact .inl q3
        · exact .inr (by omega)
      · rcases q4 with q4 | ⟨q4, q5⟩
        · exact .inl q4
        · exact .inr ⟨q4, by omega⟩
    · rw [if_neg hin]; exact h9
  · rw [eS]
    have := hf.S i hi
    split
    · omega
    · exact this
def fdStep (g a : Nat → Int) (s : Fd × Int) : Fd × Int :=
  (turned s.1 (eaN s.1 g a) (s.1.K (eaN s.1 g a)) (s.1.S (eaN s.1 g a) - minI s.2 (s.1.S (eaN s.1 g a))), s.2 - minI s.2 (s.1.S (eaN s.1 g a)))
def fdSt (f : Fd) (g a : Nat → Int) : Nat → Fd × Int
  | 0 => (f, a 1 * a 2)
  | k + 1 => fdStep g a (fdSt f g a k)
/-- The field behind k meals, and what the flock would still eat. -/
def fdF (f : Fd) (g a : Nat → Int) (k : Nat) : Fd := (fdSt f g a k).1
def fdL (f : Fd) (g a : Nat → Int) (k : Nat) : Int := (fdSt f g a k).2
/-- Whether there is one more meal. -/
def fdGo (f : Fd) (g a : Nat → Int) (k : Nat) : Bool := decide (0 < fdL f g a k) && decide ((mealsR (fdF f g a k) g a 100).length ≠ 0)
def fdW (f : Fd) (g a : Nat → Int) : Nat → Nat
  | 0 => 0
  | k + 1 => if fdW f g a k = k ∧ fdGo f g a k = true then k + 1 else fdW f g a k
/-- How many meals there are. -/
def fdN (f : Fd) (g a : Nat → Int) : Nat := fdW f g a 4
/-- A meal's visit. -/
def fdV (u : Int) (f : Fd) (g a : Nat → Int) (k : Nat) : Nat → Int := fun j => if j = 0 then u else if j = 1 then (eaN (fdF f g a k) g a : Int) else minI (fdL f g a k) ((fdF f g a k).S (eaN (fdF f g a k) g a))
def fdR (u : Int) (f : Fd) (g a : Nat → Int) (k : Nat) : List (Nat → Int) := (List.range k).map (fdV u f g a)
theorem fdR_snoc (u : Int) (f : Fd) (g a : Nat → Int) (k : Nat) : fdR u f g a (k + 1) = fdR u f g a k ++ [fdV u f g a k] := by simp [fdR, List.range_succ]
theorem fdR_len (u : Int) (f : Fd) (g a : Nat → Int) (k : Nat) : (fdR u f g a k).length = k := by simp [fdR]
theorem fdW_le (f : Fd) (g a : Nat → Int) : ∀ k, fdW f g a k ≤ k
  | 0 => Nat.le_refl _
  | k + 1 => by have := fdW_le f g a k; unfold fdW; split <;> omega
theorem fdW_go {f : Fd} {g a : Nat → Int} {k : Nat} (h : fdW f g a k = k) (hg : fdGo f g a k = true) : fdW f g a (k + 1) = k + 1 := by unfold fdW; rw [if_pos ⟨h, hg⟩]
theorem fdW_inv {f : Fd} {g a : Nat → Int} {k : Nat} (h : fdW f g a (k + 1) = k + 1) : fdW f g a k = k ∧ fdGo f g a k = true := by
  have := fdW_le f g a k
  unfold fdW at h
  split at h
  · rename_i h9; exact h9
  · omega
theorem fdW_stop {f : Fd} {g a : Nat → Int} {k : Nat} (h : fdW f g a k = k) (hg : fdGo f g a k = false) : ∀ m, fdW f g a (k + m) = k
  | 0 => h
  | m + 1 => by
    have ih := fdW_stop h hg m
    show (if fdW f g a (k + m) = k + m ∧ fdGo f g a (k + m) = true then k + m + 1 else fdW f g a (k + m)) = k
    rw [if_neg]
    · exact ih
    · rintro ⟨h1, h2⟩
      obtain rfl : m = 0 := by omega
      rw [Nat.add_zero, hg] at h2
      exact absurd h2 (by decide)
theorem fdN_stop {f : Fd} {g a : Nat → Int} {k : Nat} (h : fdW f g a k = k) (hk : k ≤ 4) (hg : fdGo f g a k = false) : fdN f g a = k := by
  have := fdW_stop h hg (4 - k)
  rw [show k + (4 - k) = 4 by omega] at this
  exact this
theorem fdGo_iff {f : Fd} {g a : Nat → Int} {k : Nat} : fdGo f g a k = true ↔ 0 < fdL f g a k ∧ (mealsR (fdF f g a k) g a 100).length ≠ 0 := by
  unfold fdGo; rw [Bool.and_eq_true, decide_eq_true_eq, decide_eq_true_eq]
theorem fdGo_no1 {f : Fd} {g a : Nat → Int} {k : Nat} (h : fdL f g a k ≤ 0) : fdGo f g a k = false := by
  cases hg : fdGo f g a k with
  | false => rfl
  | true => have := (fdGo_iff.1 hg).1; omega
theorem fdGo_no2 {f : Fd} {g a : Nat → Int} {k : Nat} (h : (mealsR (fdF f g a k) g a 100).length = 0) : fdGo f g a k = false := by
  cases hg : fdGo f g a k with
  | false => rfl
  | true => exact absurd h (fdGo_iff.1 hg).2
theorem min_pos {m s : Int} (hm : 0 < m) (hs : 0 < s) : 0 < minI m s ∧ minI m s ≤ m ∧ minI m s ≤ s := by unfold minI; split <;> omega
/-- One meal: where, how much, what is left. -/
theorem fd_meal {f : Fd} {g a : Nat → Int} {k : Nat} (hok : okF (fdF f g a k) = true) (hg : fdGo f g a k = true) : ∃ n : Nat, n < 100 ∧ eaN (fdF f g a k) g a = n ∧ bL (a 5) (mealsR (fdF f g a k) g a 100) 0 = (n : Int) ∧ isCell (fdF f g a k) (n : Int) = true ∧ 0 < (fdF f g a k).S n ∧ (fdF f g a k).S n ≤ 1000 ∧
    fdF f g a (k + 1) = turned (fdF f g a k) n ((fdF f g a k).K n) ((fdF f g a k).S n - minI (fdL f g a k) ((fdF f g a k).S n)) ∧ fdL f g a (k + 1) = fdL f g a k - minI (fdL f g a k) ((fdF f g a k).S n) ∧
    0 < minI (fdL f g a k) ((fdF f g a k).S n) ∧ minI (fdL f g a k) ((fdF f g a k).S n) ≤ fdL f g a k ∧ minI (fdL f g a k) ((fdF f g a k).S n) ≤ (fdF f g a k).S n ∧ ∀ u, fdV u f g a k = fun j => if j = 0 then u else if j = 1 then (n : Int) else minI (fdL f g a k) ((fdF f g a k).S n) := by
  obtain ⟨g1, g2⟩ := fdGo_iff.1 hg
  obtain ⟨n, hn, he, hb, hc, h0, h1⟩ := meal_cell hok g2
  obtain ⟨m1, m2, m3⟩ := min_pos g1 h0
  refine ⟨n, hn, he, hb, hc, h0, h1, ?_, ?_, m1, m2, m3, fun u => by unfold fdV; rw [he]⟩
  · show turned (fdF f g a k) (eaN (fdF f g a k) g a) ((fdF f g a k).K (eaN (fdF f g a k) g a)) ((fdF f g a k).S (eaN (fdF f g a k) g a) - minI (fdL f g a k) ((fdF f g a k).S (eaN (fdF f g a k) g a))) = _
    rw [he]
  · show fdL f g a k - minI (fdL f g a k) ((fdF f g a k).S (eaN (fdF f g a k) g a)) = _
    rw [he]
theorem fd_ok {f : Fd} {g a : Nat → Int} (hf : f.Wf) (hok : okF f = true) (hh : 0 ≤ a 1 * a 2 ∧ a 1 * a 2 ≤ 4000) : ∀ k, fdW f g a k = k → okF (fdF f g a k) = true ∧ (fdF f g a k).Wf ∧ 0 ≤ fdL f g a k ∧ fdL f g a k + (k : Int) ≤ 4000
  | 0, _ => ⟨hok, hf, hh.1, by show a 1 * a 2 + 0 ≤ 4000; omega⟩
  | k + 1, h => by
    obtain ⟨h1, h2⟩ := fdW_inv h
    obtain ⟨q1, q2, q3, q4⟩ := fd_ok hf hok hh k h1
    obtain ⟨n, hn, _, _, _, s0, _, eF, eL, m1, m2, m3, _⟩ := fd_meal q1 h2
    obtain ⟨r1, r2⟩ := eat_keeps q2 q1 hn (by omega) m3
    rw [eF, eL]
    exact ⟨r1, r2, by omega, by omega⟩
theorem fdN_le (f : Fd) (g a : Nat → Int) : fdN f g a ≤ 4 := fdW_le f g a 4
theorem fdW_fdN (f : Fd) (g a : Nat → Int) : ∀ k, fdW f g a (fdW f g a k) = fdW f g a k
  | 0 => rfl
  | k + 1 => by
    have ih := fdW_fdN f g a k
    by_cases h : fdW f g a k = k ∧ fdGo f g a k = true
    · have e : fdW f g a (k + 1) = k + 1 := fdW_go h.1 h.2
      rw [e, e]
    · have e : fdW f g a (k + 1) = fdW f g a k := by
        show (if fdW f g a k = k ∧ fdGo f g a k = true then k + 1 else fdW f g a k) = _
        rw [if_neg h]
      rw [e, ih]
theorem fd_out {f : Fd} {g a : Nat → Int} (hf : f.Wf) (hok : okF f = true) (hh : 0 ≤ a 1 * a 2 ∧ a 1 * a 2 ≤ 4000) : okF (fdF f g a (fdN f g a)) = true ∧ (fdF f g a (fdN f g a)).Wf := by
  obtain ⟨h1, h2, _, _⟩ := fd_ok (g := g) hf hok hh (fdN f g a) (fdW_fdN f g a 4)
  exact ⟨h1, h2⟩
end
section
open Go Go.RowKit

theorem own_shape {w : World} {base : Nat} {e : TypeId} {size n : Nat} {v : Value} {xs : List Value} (h : w.ownsRow base e size v n xs) : ∃ p c, v = .slice p n c := by
  rcases h.2 with ⟨rfl, rfl⟩ | ⟨g, cap, cur, rfl, _⟩
  · exact ⟨_, _, rfl⟩
  · exact ⟨_, _, rfl⟩
theorem own_weak {w : World} {base base' : Nat} {e : TypeId} {size n : Nat} {v : Value} {xs : List Value} (h : w.ownsRow base e size v n xs) (hb : base' ≤ base) : w.ownsRow base' e size v n xs :=
  ⟨h.1, h.2.imp id (fun ⟨g, cap, cur, h1, h2, h3⟩ => ⟨g, cap, cur, h1, Nat.le_trans hb h2, h3⟩)⟩
theorem own_ne {w : World} {base : Nat} {e : TypeId} {size n : Nat} {v : Value} {xs : List Value} (h : w.ownsRow base e size v n xs) {b : Nat} (hb : b < base) : v.ownBlock = none ∨ v.ownBlock ≠ some b := by
  rcases h.2 with ⟨rfl, rfl⟩ | ⟨g, cap, cur, rfl, h2, _⟩
  · exact .inl rfl
  · exact .inr (fun e => by
      have : g = b := by simpa [Value.ownBlock] using e
      omega)
theorem grown_row (w : World) (b : Nat) (cs : Array Value) : w.grownBy (w.setRow b cs) (some b) :=
  ⟨rfl, rfl, rfl, by simp, fun k _ hk => setRow_other w b k cs (fun e => hk (by rw [e]))⟩
theorem grown_of_below {w w' : World} (h : Below w.heap.size w w') (row : Option Nat) : w.grownBy w' row := ⟨h.os, h.tape, h.output, h.size, fun k hk _ => h.block k hk⟩
theorem own_row {w : World} {base : Nat} {e : TypeId} {size n : Nat} {v : Value} {xs : List Value} (h : w.ownsRow base e size v n xs) {b : Nat} (hb : b < base) (cs : Array Value) : (w.setRow b cs).ownsRow base e size v n xs :=
  h.kept (grown_row w b cs) (own_ne h hb)
theorem own_later {w w' : World} {base : Nat} {e : TypeId} {size : Nat} {v : Value} {n : Nat} {xs : List Value} (h : w.ownsRow base e size v n xs) (hb : Below w.heap.size w w') : w'.ownsRow base e size v n xs :=
  h.kept (grown_of_below hb none) (by
    cases hv : v.ownBlock with
    | none => exact .inl rfl
    | some x => exact .inr (by simp))
theorem Mem.ownG {w0 W W' : World} {L : List Ent} (H : Mem w0 W L) {n0 : Nat} {e : TypeId} {size n : Nat} {v : Value} {xs : List Value} (hrow : W.ownsRow n0 e size v n xs) (hg : W.grownBy W' v.ownBlock) (hn : w0.heap.size ≤ n0) (hne : ∀ x ∈ L, x.t ≠ e) : Mem w0 W' L := by
  refine ⟨H.below.grown hg H.below.size (fun j hj => ?_), fun i x h => ⟨(H.blk i x h).1, ?_⟩, H.apart⟩
  · exact Nat.le_trans hn (hrow.lt j hj).1
  · have B := (H.blk i x h).2
    unfold Blk
    rw [hg.block x.b B.lt (fun he => ?_)]
    · exact B
    · rcases hrow.2 with ⟨rfl, _⟩ | ⟨g, cap, cur, rfl, _, hb, _⟩
      · simp [Value.ownBlock] at he
      · have hgx : x.b = g := by simpa [Value.ownBlock] using he
        have hB : W.heap[x.b]? = some (.cells x.cs x.t (0, 0)) := B
        rw [hgx, hb] at hB
        have : e = x.t := by injection hB with h9; injection h9
        exact hne x (List.mem_of_getElem? h) this.symm
theorem Mem.frontF {w0 w : World} {L : List Ent} {e : Ent} (H : Mem w0 w (L ++ [e])) : Mem w0 w L :=
  ⟨H.below, fun i x h => H.blk i x (by rw [List.getElem?_append_left (List.getElem?_eq_some_iff.1 h).1]; exact h), fun i j x y h1 h2 h => H.apart i j x y (by rw [List.getElem?_append_left (List.getElem?_eq_some_iff.1 h1).1]; exact h1) (by rw [List.getElem?_append_left (List.getElem?_eq_some_iff.1 h2).1]; exact h2) h⟩
theorem Vinfo : (Tryd.prog.info? 32).map (fun i => (i.zero, i.size, i.bytes)) = some (some (.agg #[.int .i8 0, .int .i16 0, .int .i16 0]), 3, 6) := by kernel_rfl
theorem fdV_cells {u : Int} {f : Fd} {g a : Nat → Int} {k n : Nat} {x : Int} (h : fdV u f g a k = fun j => if j = 0 then u else if j = 1 then (n : Int) else x) : rcells ksVisit (fdV u f g a k) = [.int .i8 u, .int .i16 (n : Int), .int .i16 x] := by
  rw [h]; unfold rcells; simp [List.range_succ]
/-- What feeding a flock answers. -/
def FdP (u : Int) (f : Fd) (g a : Nat → Int) (w : World) (e : Ending) (w' : World) : Prop :=
  ∃ v, e = .returned (.tuple #[.agg (fcells (fdF f g a (fdN f g a))), v]) ∧ w'.ownsRow w.heap.size 32 3 v (fdN f g a) (scells ksVisit (fdN f g a) (rowsF (fdR u f g a (fdN f g a)))).toList ∧ Below w.heap.size w w'
/-- The same, where the visits are no nil slice. -/
def FdQ (u : Int) (f : Fd) (g a : Nat → Int) (w : World) (e : Ending) (w' : World) : Prop :=
  ∃ v, e = .returned (.tuple #[.agg (fcells (fdF f g a (fdN f g a))), v]) ∧ w'.ownsRow w.heap.size 32 3 v (fdN f g a) (scells ksVisit (fdN f g a) (rowsF (fdR u f g a (fdN f g a)))).toList ∧ v ≠ .slice none 0 0 ∧ Below w.heap.size w w'
theorem FdQ.p {u : Int} {f : Fd} {g a : Nat → Int} {w w' : World} {e : Ending} (h : FdQ u f g a w e w') : FdP u f g a w e w' := by
  obtain ⟨v, h1, h2, _, h3⟩ := h
  exact ⟨v, h1, h2, h3⟩
theorem fdQ_mk {u : Int} {f : Fd} {g a : Nat → Int} {w w' : World} {k nb : Nat} {FK : Fd} {v : Value} (hN : fdN f g a = k) (hF : fdF f g a k = FK) (ho : w'.ownsRow nb 32 3 v k (scells ksVisit k (rowsF (fdR u f g a k))).toList) (hv : v ≠ .slice none 0 0) (hn : w.heap.size ≤ nb) (hb : Below w.heap.size w w') :
    FdQ u f g a w (.returned (.tuple #[.agg (fcells FK), v])) w' := ⟨v, by rw [hN, hF], by rw [hN]; exact own_weak ho hn, hv, hb⟩
theorem fdP_mk {u : Int} {f : Fd} {g a : Nat → Int} {w w' : World} {k nb : Nat} {FK : Fd} {v : Value} (hN : fdN f g a = k) (hF : fdF f g a k = FK) (ho : w'.ownsRow nb 32 3 v k (scells ksVisit k (rowsF (fdR u f g a k))).toList) (hn : w.heap.size ≤ nb) (hb : Below w.heap.size w w') :
    FdP u f g a w (.returned (.tuple #[.agg (fcells FK), v])) w' := ⟨v, by rw [hN, hF], by rw [hN]; exact own_weak ho hn, hb⟩
end
section
open Go Go.ChangeShapes Go.WideShapes Go.ChangeAt Go.RowKit Go.Shelf

/-- What a round keeps: all below n0, these boxes, and rows of type T at B or beyond. -/
structure KpF (n0 : Nat) (Ks : List Nat) (B : Nat) (T : TypeId) (A C : World) : Prop where
  low : Below n0 A C
  ks : ∀ k ∈ Ks, C.heap[k]? = A.heap[k]?
  own : ∀ k c, B ≤ k → A.heap[k]? = some (.cells c T (0, 0)) → C.heap[k]? = some (.cells c T (0, 0))
theorem KpF.put {n0 : Nat} {Ks : List Nat} {B : Nat} {T : TypeId} {A C : World} (h : KpF n0 Ks B T A C) {l : Nat} {o : Obj} (o' : Obj) (hl : C.heap[l]? = some o) (ho : o.isCells = false) (hn : n0 ≤ l) (hk : ∀ k ∈ Ks, k < l) : KpF n0 Ks B T A (C.putObj l o') :=
  ⟨h.low.grown (grownBy_putObj' C l o') (by have := (Array.getElem?_eq_some_iff.1 hl).1; omega) (fun k e => by cases e; exact hn),
   fun k hkm => (World.putObj_heap_other (by have := hk k hkm; omega)).trans (h.ks k hkm),
   fun k c hB hc => by
    have h9 := h.own k c hB hc
    refine (World.putObj_heap_other (fun e => ?_)).trans h9
    subst e
    rw [hl] at h9
    cases h9
    cases ho⟩
theorem grown_cells (b : Nat) : ∀ (vs : List Value) (o : Nat) (w : World), w.grownBy (w.setCells b o vs) (some b)
  | [], _, w => ⟨rfl, rfl, rfl, Nat.le_refl _, fun _ _ _ => rfl⟩
  | v :: vs, o, w => Ngrown_trans (Ngrown_cell w b o v) (grown_cells b vs (o + 1) _)
theorem grown_newCells {A B : World} {row : Option Nat} (h : A.grownBy B row) {b : Nat} (hb : A.heap.size ≤ b) (vs : List Value) (o : Nat) : A.grownBy (B.setCells b o vs) row :=
  have h2 := grown_cells b vs o B
  ⟨h2.os.trans h.os, h2.tape.trans h.tape, h2.output.trans h.output, Nat.le_trans h.size h2.size, fun k hk hne => (h2.block k (by have := h.size; omega) (fun e => by cases e; omega)).trans (h.block k hk hne)⟩
def fdC (f : Fd) (g a : Nat → Int) (k : Nat) : Array Value := cVis (fdV 0 f g a k)

set_option maxRecDepth 100000 in
set_option maxHeartbeats 8000000 in
theorem visits1_in (n l Bf Bb Bg : Nat) (f : Fd) (hf : f.Wf) (hok : okF f = true) (g : Nat → Int) (hg : Wf16 g) (a : Nat → Int) (ha : WfR a) (h0 : 0 ≤ a 0 ∧ a 0 ≤ 99) (h5 : 0 ≤ a 5 ∧ a 5 ≤ 2) (hh : 0 ≤ a 1 * a 2 ∧ a 1 * a 2 ≤ 4000) (A : Nat → Addr) (w0 : World) (S0 : Sents w0 A) (B0 : Nat) (J Jx : List Nat → World → Prop) (W : World) (hB0 : B0 ≤ W.heap.size) (hJ : AbT W.heap.size 30 J)
    (hY : ∀ pre (x : Nat) W1, J pre W1 → pre.length < 4001 → YieldAt Fence.wide (n - 1) Tryd.prog l #[.agg (fcells (fdF f g a (x + 1))), .agg (fdC f g a x)] W1 fun e W' =>
      (e = .returned (.bool true) ∧ J (pre ++ [x]) W' ∧ KpF w0.heap.size [Bf, Bb, Bg] B0 30 W1 W') ∨ (e = .returned (.bool false) ∧ Jx (pre ++ [x]) W'))
    (hb0 : Below w0.heap.size w0 W) (BF : Blk W Bf (fcells f) 30) (BB : Blk W Bb (flc a) 38) (BG : Blk W Bg (acells .i16 100 g) 36) (hJ0 : J [] W) :
    CallsIn Fence.wide n Tryd.prog 97 #[.func (.yield l) #[] #[], .pointer (some ⟨Bf, 0, none⟩), .pointer (some ⟨Bb, 0, none⟩), .pointer (some ⟨Bg, 0, none⟩)] W fun e W' => (∃ v, e = .returned v) ∧
      ((∃ xs, (∃ k, xs = List.range k ∧ fdW f g a k = k ∧ fdGo f g a k = false) ∧ J xs W') ∨ (∃ pre, (∃ k, pre = List.range k ∧ fdW f g a k = k) ∧ Jx pre W')) := by
  have hdep : Fence.wide.depth.isSome = false := rfl
  have hfn : ∀ k, Fence.wide.fn k := fun _ => trivial
  have HOK := Lib.hid (fun k => fd_ok (g := g) hf hok hh k)
  have HG9 := Lib.hid hg
  have HA9 := Lib.hid ha
  have HF0 := Lib.hid BF
  have HB0 := Lib.hid BB
  have HG0 := Lib.hid BG
  have HS := Lib.hid S0
  have HY := Lib.hid hY
  have HJ := Lib.hid hJ
  have hif := isIfaceErr
  have hz : Hid (Tryd.zeroCells30.size = 202) := Lib.hid (by rw [zeroFd, fcells_size])
  obtain ⟨wz, hwz⟩ : ∃ wz, W.heap.size = wz := ⟨_, rfl⟩
  have ltF := BF.lt
  have ltB := BB.lt
  have ltG := BG.lt
  have hw0 := hb0.size
  clear BF BB BG S0 hY hJ hg ha hf hok hh
  refine callsIn_of_wp Tryd.func97 rfl trivial ?_ rfl
  simp only [Tryd.ntmps97, List.size_toArray, List.length_cons, List.length_nil, Nat.reduceAdd, Nat.reduceSub, Array.replicate_succ, Array.replicate_zero, List.push_toArray, List.append_toArray, List.nil_append, List.cons_append]
  gi_upto_region 0 with (fail)
  refine wpIn_region_rel_tail 4 (DL [dV (.agg (fcells f)), dV (.agg (flc a)), dV (.int .i64 (a 1 * a 2)), dB (Tryd.zeroCells30) 30]) (fun w' => Mem W w' []) hfn hdep (by kernel_rfl) (fun f' args w' R h => callsIn_wide.2 h) (by kernel_rfl) (by kernel_rfl) grows_mem
    (stays_DL (fun d hd => by
      simp only [List.mem_cons, List.mem_nil_iff, or_false] at hd
      rcases hd with rfl | rfl | rfl | rfl <;> first | exact stay_V | exact stay_B)) (Mem.nil W).drew ?_
  refine rel_load 30 _ rfl (Bf) (0) rfl (fcells f) _ rfl rfl (fun w' hw' => (HF0.out.later hw'.below).whole) Tryd.underlying30 rfl (by rw [fcells_size]; exact sizeFd) (fun _ => ?_)
  simp only [Act.put, List.setIfInBounds_toArray, List.set_cons_zero, List.set_cons_succ]
  refine rel_load 38 _ rfl (Bb) (0) rfl (flc a) _ rfl rfl (fun w' hw' => (HB0.out.later hw'.below).whole) Tryd.underlying38 rfl (by kernel_rfl) (fun _ => ?_)
  simp only [Act.put, List.setIfInBounds_toArray, List.set_cons_zero, List.set_cons_succ]
  refine rel_call (.int .i64 (a 1 * a 2)) 47 #[.agg (flc a)] rfl rfl rfl rfl (enters_of Tryd.func47 (by kernel_rfl) rfl) (fun w' _ => hunger_any a HA9.out w') (fun _ => ?_)
  simp only [Act.put, List.setIfInBounds_toArray, List.set_cons_zero, List.set_cons_succ]
  refine rel_alloc (Tryd.zeroCells30) 30 rfl rfl (fun _ => by rfl) (fun lb => ?_)
  simp only [Act.put, List.setIfInBounds_toArray, List.set_cons_zero, List.set_cons_succ]
  refine rel_nil (fun W6 inv => ?_)
  have hlb : wz ≤ lb := by rw [← hwz]; exact (inv.fact 3 _ rfl).1
  have MA := inv.mem1 (i := 3) (Mem.nil W) inv.cls rfl
  clear inv
  change wpListIn _ _ _ _ _ (_ :: [_]) _ _
  refine storeIn hfn rfl 30 _ _ rfl lb 0 (fcells f) rfl rfl ((MA.at 0 rfl).there 0 _ (by simp only [fcells_size, hz.out]; omega)) (by rw [fcells_size]; exact sizeFd) (fcells_one _) ?_
  have MB := MA.cells 0 0 (fcells f).toList rfl (fcells f) ((MA.at 0 rfl).over (fcells f) (by rw [fcells_size, hz.out]))
  have hJ1 : J [] (W6.setCells lb 0 (fcells f).toList) := HJ.out [] W _ none hJ0 (grown_newCells (grown_of_below MA.below none) (by rw [hwz]; exact hlb) _ _) (fun r e => by cases e)
  have hb1 := hb0.trans (MB.below.mono hb0.size)
  have BL := Lib.hid (MB.at 0 rfl)
  have BF1 := Lib.hid (HF0.out.later MB.below)
  have BB1 := Lib.hid (HB0.out.later MB.below)
  have BG1 := Lib.hid (HG0.out.later MB.below)
  generalize World.setCells _ _ _ _ = W7 at hJ1 hb1 BL BF1 BB1 BG1 ⊢
  clear MA MB HF0 HB0 HG0 hJ0 hb0
  gi_wp2
  gi_loopw [6] (fun i wr => ∃ k : Nat, i = .int .i64 (fdL f g a k) ∧ Hid (fdW f g a k = k) ∧ J (List.range k) wr ∧ Below w0.heap.size w0 wr ∧ Hid (Blk wr lb (fcells (fdF f g a k)) 30) ∧ Hid (Blk wr Bf (fcells f) 30) ∧ Hid (Blk wr Bb (flc a) 38) ∧ Hid (Blk wr Bg (acells .i16 100 g) 36)) (fun i _ => (intOf i).toNat)
  case atStart => exact ⟨0, rfl, Lib.hid rfl, hJ1, hb1, BL, BF1, BB1, BG1⟩
  case round =>
    clear hJ1 hb1 BL BF1 BB1 BG1
    obtain ⟨k, rfl, hWk, hJk, hbw, BL, BF, BB, BG⟩ := hrel
    obtain ⟨q1, q2, q3, q4⟩ := HOK.out k hWk.out
    obtain ⟨FK, hFK⟩ : ∃ FK, fdF f g a k = FK := ⟨_, rfl⟩
    obtain ⟨Lk, hLk⟩ : ∃ Lk, fdL f g a k = Lk := ⟨_, rfl⟩
    have HFK := Lib.hid hFK
    have HLK := Lib.hid hLk
    have HGO : Hid (fdGo f g a k = (decide (0 < Lk) && decide ((mealsR FK g a 100).length ≠ 0))) := Lib.hid (by unfold fdGo; rw [hFK, hLk])
    rw [hFK] at BL q1 q2
    rw [hLk] at q3 q4 ⊢
    replace q1 := Lib.hid q1
    replace q2 := Lib.hid q2
    clear hFK hLk
    have Z9 := BL.out.lt
    by_cases hL0 : 0 < Lk
    · by_cases hlen : (mealsR FK g a 100).length = 0
      · have HN : Hid (fdGo f g a k = false) := Lib.hid (by rw [HGO.out, hlen]; simp)
        have HE : Hid (choErr A (mealsR FK g a 100) = errVal (A 6)) := Lib.hid (by unfold choErr; rw [if_pos hlen])
        clear hlen
        gi_wp2_with (first
          | (refine loadIn hfn rfl 30 _ rfl lb 0 rfl (fcells FK) _ BL.out.whole Tryd.underlying30 rfl (by rw [fcells_size]; exact sizeFd) ?_)
          | (refine loadIn hfn rfl 36 _ rfl Bg 0 rfl (acells .i16 100 g) _ BG.out.whole Tryd.underlying36 rfl (by rw [acells_size]; exact sizeE) ?_)
          | (refine loadIn hfn rfl 38 _ rfl Bb 0 rfl (flc a) _ BB.out.whole Tryd.underlying38 rfl (by kernel_rfl) ?_)
          | (gi_at_call 46; refine (callsIn_wide.2 (choiceOf_any FK q1.out g HG9.out a HA9.out h0 h5 A _ (HS.out.later hbw))).mono ?_; rintro e W3 ⟨rfl, hb3⟩; rw [HE.out]))
        refine bodyPost_ret (results_none rfl _ _ _) rfl ?_
        exact ⟨⟨_, rfl⟩, .inl ⟨_, ⟨k, rfl, hWk.out, HN.out⟩, HJ.out _ _ _ none hJk (grown_of_below hb3 none) (fun r e => by cases e)⟩⟩
      · have hgo : fdGo f g a k = true := by rw [HGO.out]; simp [hL0, hlen]
        obtain ⟨n9, hn, he, hbl, hc, s0, s1, eF, eL, m1, m2, m3, eV⟩ := fd_meal (f := f) (g := g) (a := a) (k := k) (by rw [HFK.out]; exact q1.out) hgo
        have HWG := Lib.hid (fdW_go hWk.out hgo)
        rw [HFK.out] at hbl s0 s1 eF eL m1 m2 m3 eV
        rw [HLK.out] at eF eL m1 m2 m3 eV
        have HE : Hid (choErr A (mealsR FK g a 100) = .nilIface) := Lib.hid (by unfold choErr; rw [if_neg hlen])
        have HV : Hid (choVal (a 5) (mealsR FK g a 100) = (n9 : Int)) := Lib.hid (by unfold choVal; rw [if_neg hlen, hbl])
        have HEAT := Lib.hid (fun w => eatAt_any FK n9 hn (by omega) s1 Lk (by omega) (by omega) w)
        obtain ⟨x, hx⟩ : ∃ x, minI Lk (FK.S n9) = x := ⟨_, rfl⟩
        rw [← eF] at HEAT
        rw [hx] at HEAT eL m1 m2 m3
        have hcV : fdC f g a k = vis n9 x := by unfold fdC; rw [eV 0, hx]; rfl
        have HEL := Lib.hid eL
        obtain ⟨FN, hFN⟩ : ∃ FN, fdF f g a (k + 1) = FN := ⟨_, rfl⟩
        have HFN := Lib.hid hFN
        rw [hFN] at HEAT
        have hx2 : x ≤ 1000 := by omega
        have hcx : IntKind.i64.wrap x = x := IntWalk.i64_in _ (by omega)
        have hsub : IntKind.i64.wrap (Lk - x) = Lk - x := IntWalk.i64_in _ (by omega)
        have HCV := Lib.hid hcV
        clear hlen hgo he hbl hc s0 s1 eF eL eV hx hFN m3 hcV
        have ok1 : True := trivial
        have ok2 : True := trivial
        have ok3 : True := trivial
        have ok4 : True := trivial
        have ok5 : True := trivial
        have ok6 : True := trivial
        have ok7 : True := trivial
        have ok8 : True := trivial
        gi_upto_region 6 with (first
          | (clear ok1; refine loadIn hfn rfl 30 _ rfl lb 0 rfl (fcells FK) _ BL.out.whole Tryd.underlying30 rfl (by rw [fcells_size]; exact sizeFd) ?_)
          | (clear ok2; refine loadIn hfn rfl 36 _ rfl Bg 0 rfl (acells .i16 100 g) _ BG.out.whole Tryd.underlying36 rfl (by rw [acells_size]; exact sizeE) ?_)
          | (clear ok3; refine loadIn hfn rfl 38 _ rfl Bb 0 rfl (flc a) _ BB.out.whole Tryd.underlying38 rfl (by kernel_rfl) ?_)
          | (clear ok4; gi_at_call 46; refine (callsIn_wide.2 (choiceOf_any FK q1.out g HG9.out a HA9.out h0 h5 A _ (HS.out.later hbw))).mono ?_; rintro e W3 ⟨rfl, hb3⟩; rw [HE.out, HV.out]; have M3 := (Mem.nil wr).call hb3; have M4 := M3.alloc #[.int .i8 0, .int .i16 0, .int .i16 0] 32; have BL4 := BL.out.later M4.below; clear hb3)
          | (clear ok5; refine loadIn hfn rfl 30 _ rfl lb 0 rfl (fcells FK) _ BL4.whole Tryd.underlying30 rfl (by rw [fcells_size]; exact sizeFd) ?_)
          | (clear ok6; gi_at_call 48; refine (callsIn_wide.2 (HEAT.out _)).mono ?_; rintro e W5 ⟨rfl, hb5⟩; have M5 := M4.call hb5; have BL5 := BL4.later hb5; clear hb5 M4 BL4)
          | (clear ok7; refine storeIn hfn rfl 30 _ _ rfl lb 0 (fcells FN) rfl rfl (BL5.there 0 _ (by simp only [fcells_size]; omega)) (by rw [fcells_size]; exact sizeFd) (fcells_one _) ?_)
          | (clear ok8; refine storeIn hfn rfl 32 _ _ rfl W3.heap.size 0 (vis n9 x) rfl rfl ((Blk.cellsOther (by have := (M5.at 0 rfl).lt; have := M5.ge 0 rfl; omega) _ _ _ (M5.at 0 rfl)).there 0 _ (by simp only [vis_size]; decide)) sizeVis (vis_one _ _) ?_))
        have hge3 : wr.heap.size ≤ W3.heap.size := M5.ge 0 rfl
        have hne : lb ≠ W3.heap.size := by omega
        have BV7 : Blk ((W5.setCells lb 0 (fcells FN).toList).setCells W3.heap.size 0 (vis n9 x).toList) W3.heap.size (vis n9 x) 32 := (Blk.cellsOther hne.symm _ _ _ (M5.at 0 rfl)).over (vis n9 x) rfl
        have BL7 : Blk ((W5.setCells lb 0 (fcells FN).toList).setCells W3.heap.size 0 (vis n9 x).toList) lb (fcells FN) 30 := Blk.cellsOther hne _ _ _ (BL5.over (fcells FN) (by simp only [fcells_size]))
        have G7 : wr.grownBy ((W5.setCells lb 0 (fcells FN).toList).setCells W3.heap.size 0 (vis n9 x).toList) (some lb) := grown_newCells (Ngrown_trans (grown_of_below M5.below (some lb)) (grown_cells lb _ _ _)) hge3 _ _
        generalize World.setCells _ _ _ _ = W7 at BV7 BL7 G7 ⊢
        have J7 : J (List.range k) W7 := HJ.out _ _ _ (some lb) hJk G7 (fun r e => by cases e; exact ⟨by rw [hwz]; exact hlb, _, BL.out⟩)
        have BF7 := Lib.hid ((G7.block Bf BF.out.lt (fun e => by cases e; omega)).trans BF.out)
        have BB7 := Lib.hid ((G7.block Bb BB.out.lt (fun e => by cases e; omega)).trans BB.out)
        have BG7 := Lib.hid ((G7.block Bg BG.out.lt (fun e => by cases e; omega)).trans BG.out)
        have b7 : Below w0.heap.size w0 W7 := hbw.grown G7 hbw.size (fun j e => by cases e; omega)
        clear G7 hJk hbw BL BF BB BG M5 BL5
        have cx := BV7.cell (i := 2) (v := .int .i16 x) rfl
        obtain ⟨fn, tmps, assign, body, hy, hR⟩ := HY.out (List.range k) k W7 J7 (by rw [List.length_range]; omega)
        rw [HFN.out, HCV.out] at hy
        have ok9 : True := trivial
        have ok10 : True := trivial
        gi_wp2_with (first
          | (clear ok9; refine loadIn hfn rfl 30 _ rfl lb 0 rfl (fcells FN) _ BL7.whole Tryd.underlying30 rfl (by rw [fcells_size]; exact sizeFd) ?_)
          | (clear ok10; refine loadIn hfn rfl 32 _ rfl W3.heap.size 0 rfl (vis n9 x) _ BV7.whole Tryd.underlying32 rfl sizeVis ?_))
        refine hR.mono ?_
        rintro e W8 (⟨rfl, hJ8, hK8⟩ | ⟨rfl, hJx⟩)
        · have BL8 : Hid (Blk W8 lb (fcells FN) 30) := Lib.hid (hK8.own lb _ (by omega) BL7)
          have BF8 : Hid (Blk W8 Bf (fcells f) 30) := Lib.hid ((hK8.ks Bf (by simp)).trans BF7.out)
          have BB8 : Hid (Blk W8 Bb (flc a) 38) := Lib.hid ((hK8.ks Bb (by simp)).trans BB7.out)
          have BG8 : Hid (Blk W8 Bg (acells .i16 100 g) 36) := Lib.hid ((hK8.ks Bg (by simp)).trans BG7.out)
          have b8 := b7.trans hK8.low
          clear hK8 BL7 BF7 BB7 BG7 BV7 cx
          gi_wp2
          go_roundw
          case rel => exact ⟨k + 1, by rw [HEL.out], HWG, by rw [List.range_succ]; exact hJ8, b8, by rw [HFN.out]; exact BL8, BF8, BB8, BG8⟩
          case measure => simp [intOf]; omega
        · gi_wp2
          refine bodyPost_ret (results_none rfl _ _ _) rfl ?_
          exact ⟨⟨_, rfl⟩, .inr ⟨_, ⟨k + 1, List.range_succ.symm, HWG.out⟩, hJx⟩⟩
    · have HN : Hid (fdGo f g a k = false) := Lib.hid (by rw [HGO.out, decide_eq_false hL0]; rfl)
      gi_wp2
      go_end0
      exact ⟨⟨_, rfl⟩, .inl ⟨_, ⟨k, rfl, hWk.out, HN.out⟩, hJk⟩⟩
end
section
open Go Go.RowKit Go.Shelf

section
variable {F : Fence} {n : Nat} {P : Program} {ops : Array Oper} {Q : Exit → Act → World → Prop} {i : Nat} {o : Oper} {K : Act → World → Prop} {a : Act} {w w' : World}
theorem any_valI (v : Value) (d : Nat) (hF : ∀ k, F.fn k) (ho : ops[i]? = some o) (hd : o.dst = some d) (hg : o.guard = none) (hnd : ∀ c, o.op ≠ .defer c) (hr : (execOp a.eval o).run P w = .ok (.value v) w') (h : K (a.put (some d) v) w') : wpOpIn F n P ops Q i K a w := by
  have hw : Region.wanted o (yielded ops a.tmps) = true := by simp [Region.wanted, hg]
  unfold wpOpIn
  rw [ho]
  simp only [hw, if_true]
  unfold Oper.wpIn
  refine ⟨fun f _ => hF f, ?_⟩
  rw [semAt_plain _ _ _ hnd, hr]
  rw [← hd] at h
  exact h
theorem any_skipI (hF : ∀ k, F.fn k) (ho : ops[i]? = some o) (hg : o.guard = none) (hnd : ∀ c, o.op ≠ .defer c) (hr : (execOp a.eval o).run P w = .ok .skip w') (h : K (a.put o.dst undef) w') : wpOpIn F n P ops Q i K a w := by
  have hw : Region.wanted o (yielded ops a.tmps) = true := by simp [Region.wanted, hg]
  unfold wpOpIn
  rw [ho]
  simp only [hw, if_true]
  unfold Oper.wpIn
  refine ⟨fun f _ => hF f, ?_⟩
  rw [semAt_plain _ _ _ hnd, hr]
  exact h
theorem exec_append {ev : Operand → Value} {s x : Operand} {t : TypeId} {vs vx v : Value} (ho : o.op = Op.call { callee := Callee.builtin Builtin.append, args := #[s, x], argTypes := #[t, t] }) (hs : ev s = vs) (hx : ev x = vx)
    (hr : (Builtin.append_ #[t, t] o.type #[vs, vx]).run P w = .ok v w') : (execOp ev o).run P w = .ok (.value v) w' := by
  unfold execOp
  simp [ho, resolve, invoke, builtin, hs, hx, hr, Result.andThen]
end
theorem KpF.refl {n0 : Nat} {Ks : List Nat} {B : Nat} {T : TypeId} (A : World) : KpF n0 Ks B T A A := ⟨Below.refl _ _, fun _ _ => rfl, fun _ _ _ h => h⟩
theorem KpF.turn {n0 : Nat} {Ks : List Nat} {B : Nat} {T : TypeId} {A C D : World} (h : KpF n0 Ks B T A C) {row : Option Nat} (hg : C.grownBy D row) (hs : n0 ≤ C.heap.size) (hk : ∀ k ∈ Ks, k < C.heap.size ∧ some k ≠ row) (hn : ∀ r, row = some r → n0 ≤ r ∧ (r < B ∨ ∀ c, C.heap[r]? ≠ some (.cells c T (0, 0)))) : KpF n0 Ks B T A D :=
  ⟨h.low.grown hg hs (fun k e => (hn k e).1), fun k hkm => (hg.block k (hk k hkm).1 (hk k hkm).2).trans (h.ks k hkm), fun k c hB hc => by
    have h9 := h.own k c hB hc
    refine (hg.block k (Array.getElem?_eq_some_iff.1 h9).1 (fun e => ?_)).trans h9
    rcases (hn k e.symm).2 with h1 | h1
    · omega
    · exact h1 c h9⟩
theorem KpF.later {n0 : Nat} {Ks : List Nat} {B : Nat} {T : TypeId} {A C D : World} (h : KpF n0 Ks B T A C) (hb : Below C.heap.size C D) (hs : n0 ≤ C.heap.size) (hk : ∀ k ∈ Ks, k < C.heap.size) : KpF n0 Ks B T A D :=
  h.turn (grown_of_below hb none) hs (fun k hkm => ⟨hk k hkm, by simp⟩) (fun r e => by cases e)
end
section
open Go Go.ChangeShapes Go.WideShapes Go.ChangeAt Go.RowKit Go.Shelf
attribute [local go_sem] Oper.semAt_some

theorem visitsOf_any (f : Fd) (g a : Nat → Int) (w : World) : Calls Tryd.prog 78 #[.agg (fcells f), .agg (acells .i16 100 g), vFlock a] w fun e w' => e = .returned (.func (.func 97) #[] #[.pointer (some ⟨w.heap.size, 0, none⟩), .pointer (some ⟨w.heap.size + 1 + 1, 0, none⟩), .pointer (some ⟨w.heap.size + 1, 0, none⟩)]) ∧
    ((w.alloc (.cells (fcells f) 30)).alloc (.cells (acells .i16 100 g) 36)).alloc (.cells (flc a) 38) = w' := by
  go_enter Tryd.func78, Tryd.ntmps78
  go_wp2_with fail
  go_ret
  exact ⟨rfl, rfl⟩
/-- Behind which meal the field is that the last of these left. -/
def lastK (pre : List Nat) : Nat := (pre.getLast?.map (· + 1)).getD 0
theorem lastK_snoc (pre : List Nat) (x : Nat) : lastK (pre ++ [x]) = x + 1 := by simp [lastK]
theorem lastK_range : ∀ k, lastK (List.range k) = k
  | 0 => rfl
  | k + 1 => by rw [List.range_succ, lastK_snoc]
theorem Mem.turnHi {w0 W W' : World} {L : List Ent} {row : Option Nat} {B : Nat} (H : Mem w0 W L) (hg : W.grownBy W' row) (hB : w0.heap.size ≤ B) (hr : ∀ r, row = some r → B ≤ r) (hL : ∀ x ∈ L, x.b < B) : Mem w0 W' L :=
  ⟨H.below.grown hg H.below.size (fun k e => Nat.le_trans hB (hr k e)), fun i x h => ⟨(H.blk i x h).1, by
    have B9 := (H.blk i x h).2
    unfold Blk
    rw [hg.block x.b B9.lt (fun e => by have h1 := hr _ e.symm; have h2 := hL x (List.mem_of_getElem? h); omega)]
    exact B9⟩, H.apart⟩
theorem own_turn {w w' : World} {base : Nat} {e : TypeId} {size : Nat} {v : Value} {n : Nat} {xs : List Value} {row : Option Nat} (h : w.ownsRow base e size v n xs) (hg : w.grownBy w' row) (hr : ∀ r, row = some r → ∀ c, w.heap[r]? ≠ some (.cells c e (0, 0))) : w'.ownsRow base e size v n xs :=
  h.kept hg (by
    rcases h.2 with ⟨rfl, _⟩ | ⟨q, cap, cur, rfl, _, hb, _⟩
    · exact .inl rfl
    · exact .inr (fun he => hr q he.symm cur hb))
theorem noncell_ne {w : World} {r : Nat} {o : Obj} (h : w.heap[r]? = some o) (ho : o.isCells = false) (c : Array Value) (t : TypeId) : w.heap[r]? ≠ some (.cells c t (0, 0)) := fun he => by
  rw [h] at he
  cases he
  cases ho
/-- Between two rounds. -/
def FdI (w : World) (lf ob Bf vz : Nat) (f : Fd) (g a : Nat → Int) (pre : List Nat) (W : World) : Prop :=
  ∃ v, Mem w W [⟨w.heap.size, fcells f, 30⟩, ⟨w.heap.size + 1, acells .i16 100 g, 36⟩, ⟨w.heap.size + 1 + 1, flc a, 38⟩, ⟨w.heap.size + 1 + 1 + 1, Tryd.zeroCells30, 30⟩, ⟨lf, fcells (fdF f g a (lastK pre)), 30⟩, ⟨ob, #[v], 43⟩, ⟨Bf, fcells f, 30⟩, ⟨Bf + 1, acells .i16 100 g, 36⟩, ⟨Bf + 1 + 1, flc a, 38⟩] ∧ W.ownsRow vz 32 3 v (pre.map (fdV 0 f g a)).length (scells ksVisit (pre.map (fdV 0 f g a)).length (rowsF (pre.map (fdV 0 f g a)))).toList ∧ vz ≤ W.heap.size
theorem FdI.turn {w : World} {lf ob Bf vz : Nat} {f : Fd} {g a : Nat → Int} {pre : List Nat} {W W' : World} {row : Option Nat} (hv : w.heap.size + 1 + 1 + 1 < lf ∧ lf < ob ∧ ob < Bf ∧ Bf + 1 + 1 < vz) (h : FdI w lf ob Bf vz f g a pre W) (hg : W.grownBy W' row) (hr : ∀ r, row = some r → vz ≤ r ∧ ∀ c, W.heap[r]? ≠ some (.cells c 32 (0, 0))) : FdI w lf ob Bf vz f g a pre W' := by
  obtain ⟨v, M, O, Z⟩ := h
  refine ⟨v, M.turnHi hg (by omega : w.heap.size ≤ vz) (fun r e => (hr r e).1) (fun x hx => ?_), own_turn O hg (fun r e => (hr r e).2), Nat.le_trans Z hg.size⟩
  simp only [List.mem_cons, List.mem_nil_iff, or_false] at hx
  rcases hx with rfl | rfl | rfl | rfl | rfl | rfl | rfl | rfl | rfl <;> simp only <;> omega
theorem with_leaf {F : Fence} {n : Nat} {P : Program} {ops : Array Oper} {Q : Exit → Act → World → Prop} {fuel : Nat} {listed : Array Bool} {a : Act} {w : World} (Lf : (Exit → Act → World → Prop) → Prop) (h1 : Lf Q) (h2 : Lf Q → wpAnyIn F n P .any ops Q fuel listed a w) : wpAnyIn F n P .any ops Q fuel listed a w := h2 h1
theorem exec_build1 {P : Program} {o : Oper} {w w' : World} {ev : Operand → Value} {t : TypeId} {x : Operand} {vx v : Value} (ho : o.op = .buildSlice t 1 #[(0, x)]) (hx : ev x = vx) (hr : (Instr.buildSlice t 1 #[(0, vx)]).run P w = .ok v w') : (execOp ev o).run P w = .ok (.value v) w' := by
  unfold execOp
  simp only [ho, List.map_toArray, List.map_cons, List.map_nil, hx, Sem.run_bind, hr, Result.andThen_ok, Sem.run_pure]
theorem three_ofI {j k l : Nat} {p : Nat → Prop} (h : p j) (h2 : p k) (h3 : p l) : ∀ i ∈ [j, k, l], p i := fun i hi => by
  simp only [List.mem_cons, List.mem_nil_iff, or_false] at hi
  rcases hi with rfl | rfl | rfl
  · exact h
  · exact h2
  · exact h3
theorem cVis_row (r : Nat → Int) : rcells ksVisit r = (cVis r).toList := by unfold rcells; simp [List.range_succ]
set_option maxRecDepth 100000 in
set_option maxHeartbeats 8000000 in
theorem fedFlock_any (f : Fd) (hf : f.Wf) (hok : okF f = true) (g : Nat → Int) (hg : Wf16 g) (a : Nat → Int) (ha : WfR a) (h0 : 0 ≤ a 0 ∧ a 0 ≤ 99) (h5 : 0 ≤ a 5 ∧ a 5 ≤ 2) (hh : 0 ≤ a 1 * a 2 ∧ a 1 * a 2 ≤ 4000) (A : Nat → Addr) (w : World) (S0 : Sents w A) : Calls Tryd.prog 52 #[.agg (fcells f), .agg (acells .i16 100 g), vFlock a] w (FdP 0 f g a w) := by
  have hdep : Fence.wide.depth.isSome = false := rfl
  have hfn : ∀ k, Fence.wide.fn k := fun _ => trivial
  have hz : Hid (Tryd.zeroCells30.size = 202) := Lib.hid (by rw [zeroFd, fcells_size])
  obtain ⟨i0, hi, hz0, hz1, hz2⟩ := info_parts Vinfo
  have HSEQ := Lib.hid (fun n l Bf Bb Bg w0 S0 B0 J Jx W => visits1_in n l Bf Bb Bg f hf hok g hg a ha h0 h5 hh A w0 S0 B0 J Jx W)
  have HS := Lib.hid S0
  have HWF := Lib.hid (fun k => fdW_le f g a k)
  clear hf hok hg ha h0 h5 hh S0
  refine (callsIn_wide (n := 3)).1 ?_
  refine callsIn_of_wp_marks Tryd.func52 rfl trivial ?_ rfl
  simp only [Tryd.ntmps52, List.size_toArray, List.length_cons, List.length_nil, Nat.reduceAdd, Nat.reduceSub, Array.replicate_succ, Array.replicate_zero, List.push_toArray, List.append_toArray, List.nil_append, List.cons_append]
  gi_upto_region 1 with (fail)
  obtain ⟨W, hW, M⟩ := open4 w (fcells f) 30 (acells .i16 100 g) 36 (flc a) 38 Tryd.zeroCells30 30
  unfold flc at hW
  rw [hW]; clear hW
  have ok1 : True := trivial
  have ok2 : True := trivial
  gi_upto_region 2 with (first
    | (clear ok1; refine loadIn hfn rfl 30 _ rfl w.heap.size 0 rfl (fcells f) _ (M.at 0 rfl).whole Tryd.underlying30 rfl (by rw [fcells_size]; exact sizeFd) ?_)
    | (clear ok2; refine storeIn hfn rfl 30 _ _ rfl W.heap.size 0 (fcells f) rfl rfl (((M.alloc Tryd.zeroCells30 30).at 4 rfl).there 0 _ (by simp only [fcells_size, hz.out]; omega)) (by rw [fcells_size]; exact sizeFd) (fcells_one _) ?_))
  have M5 := (M.alloc Tryd.zeroCells30 30).cells 4 0 (fcells f).toList rfl (fcells f) (((M.alloc Tryd.zeroCells30 30).at 4 rfl).over (fcells f) (by rw [fcells_size, hz.out]))
  obtain ⟨lf, hlf⟩ : ∃ lf, W.heap.size = lf := ⟨_, rfl⟩
  have hlf2 : w.heap.size + 1 + 1 + 1 < lf := by rw [← hlf]; exact (M.at 3 rfl).lt
  rw [hlf] at M5 ⊢
  generalize World.setCells _ _ _ _ = W5 at M5 ⊢
  clear M hlf
  gi_upto_region 3 with (fail)
  have M6 := M5.alloc #[.slice none 0 0] 43
  obtain ⟨ob, hob⟩ : ∃ ob, W5.heap.size = ob := ⟨_, rfl⟩
  have hob2 : lf < ob := by rw [← hob]; exact (M5.at 4 rfl).lt
  rw [hob] at M6 ⊢
  generalize World.alloc _ _ = W6 at M6 ⊢
  clear M5 hob
  have ok1 : True := trivial
  have ok2 : True := trivial
  have ok3 : True := trivial
  have ok4 : True := trivial
  gi_wp2_with (first
    | (clear ok1; refine loadIn hfn rfl 30 _ rfl w.heap.size 0 rfl (fcells f) _ (M6.at 0 rfl).whole Tryd.underlying30 rfl (by rw [fcells_size]; exact sizeFd) ?_)
    | (clear ok2; refine loadIn hfn rfl 36 _ rfl (w.heap.size + 1) 0 rfl (acells .i16 100 g) _ (M6.at 1 rfl).whole Tryd.underlying36 rfl (by rw [acells_size]; exact sizeE) ?_)
    | (clear ok3; refine loadIn hfn rfl 38 _ rfl (w.heap.size + 1 + 1) 0 rfl (flc a) _ (M6.at 2 rfl).whole Tryd.underlying38 rfl (by kernel_rfl) ?_)
    | (clear ok4; gi_at_call 78; refine (callsIn_wide.2 (visitsOf_any f g a _)).mono ?_; rintro e w9 ⟨rfl, rfl⟩))
  have M9 := ((M6.alloc (fcells f) 30).alloc (acells .i16 100 g) 36).alloc (flc a) 38
  simp only [World.size_alloc] at M9
  obtain ⟨Bf, hBf⟩ : ∃ Bf, W6.heap.size = Bf := ⟨_, rfl⟩
  have hBf2 : ob < Bf := by rw [← hBf]; exact (M6.at 5 rfl).lt
  rw [hBf] at M9 ⊢
  generalize World.alloc _ _ = V at M9 ⊢
  have MV : Mem w V [⟨w.heap.size, fcells f, 30⟩, ⟨w.heap.size + 1, acells .i16 100 g, 36⟩, ⟨w.heap.size + 1 + 1, flc a, 38⟩, ⟨w.heap.size + 1 + 1 + 1, Tryd.zeroCells30, 30⟩, ⟨lf, fcells (fdF f g a (lastK [])), 30⟩, ⟨ob, #[.slice none 0 0], 43⟩, ⟨Bf, fcells f, 30⟩, ⟨Bf + 1, acells .i16 100 g, 36⟩, ⟨Bf + 1 + 1, flc a, 38⟩] := M9
  have hV : Bf + 1 + 1 < V.heap.size := (M9.at 8 rfl).lt
  clear M6 M9 hBf
  obtain ⟨vz, hvz⟩ : ∃ vz, V.heap.size = vz := ⟨_, rfl⟩
  rw [hvz] at hV
  have hv : w.heap.size + 1 + 1 + 1 < lf ∧ lf < ob ∧ ob < Bf ∧ Bf + 1 + 1 < vz := ⟨hlf2, hob2, hBf2, hV⟩
  have HV4 := Lib.hid hv
  refine wpIn_rangeFunc_st rfl (by omega) (gf := 97) (lb := #[.pointer (some ⟨Bf, 0, none⟩), .pointer (some ⟨Bf + 1 + 1, 0, none⟩), .pointer (some ⟨Bf + 1, 0, none⟩)]) rfl trivial (enters_of Tryd.func97 (by kernel_rfl) rfl)
    (encs := fun x : Nat => #[.agg (fcells (fdF f g a (x + 1))), .agg (fdC f g a x)]) (fun _ => rfl) 30 (KpF w.heap.size [Bf, Bf + 1 + 1, Bf + 1] vz 30)
    (fun xs => ∃ k, xs = List.range k ∧ fdW f g a k = k ∧ fdGo f g a k = false) (fun pre => ∃ k, pre = List.range k ∧ fdW f g a k = k) 4001
    (fun l J Jx W hW hJ _ hY h0 => HSEQ.out 2 l Bf (Bf + 1 + 1) (Bf + 1) w HS.out vz J Jx W (by rw [← hvz]; exact hW.size) hJ hY (MV.below.trans (hW.mono MV.below.size)) ((MV.at 6 rfl).later hW) ((MV.at 8 rfl).later hW) ((MV.at 7 rfl).later hW) h0)
    (fun A C l o o' hl h hc ho => h.put o' hc ho (by omega) (fun k hk => by
      simp only [List.mem_cons, List.mem_nil_iff, or_false] at hk
      rcases hk with rfl | rfl | rfl <;> omega))
    (fun pre W => pre.length < 4 ∧ FdI w lf ob Bf vz f g a pre W)
    (fun c pre W => c = .exit 0 ∧ pre.length = 4 ∧ FdI w lf ob Bf vz f g a pre W)
    (fun s W W' row hs hg hr => ⟨hs.1, hs.2.turn hv hg (fun r e => ⟨by have := (hr r e).1; omega, fun c => by obtain ⟨o, ho, hc⟩ := (hr r e).2; exact noncell_ne ho hc c _⟩)⟩)
    (fun c s W W' row hs hg hr => ⟨hs.1, hs.2.1, hs.2.2.turn hv hg (fun r e => ⟨by have := (hr r e).1; omega, fun c => by obtain ⟨o, ho, hc⟩ := (hr r e).2; exact noncell_ne ho hc c _⟩)⟩)
    (fun s W W' row hs hg hr => ⟨hs.1, hs.2.turn hv hg (fun r e => ⟨by have := (hr r e).1; omega, fun c he => by obtain ⟨c9, hc⟩ := (hr r e).2; rw [hc] at he; injection he with h9; injection h9 with _ h9; exact absurd h9 (by decide)⟩)⟩)
    (fun c s W W' row hs hg hr => ⟨hs.1, hs.2.1, hs.2.2.turn hv hg (fun r e => ⟨by have := (hr r e).1; omega, fun c he => by obtain ⟨c9, hc⟩ := (hr r e).2; rw [hc] at he; injection he with h9; injection h9 with _ h9; exact absurd h9 (by decide)⟩)⟩)
    ⟨by simp, _, MV, World.ownsRow_nil _ _ _ _, by omega⟩
    (fun A pre x a' W => ∃ x10 x11 v, vz ≤ x10 ∧ a' = { tmps := #[.agg (fcells f), .agg (acells .i16 100 g), vFlock a, .pointer (some ⟨w.heap.size, 0, none⟩), .pointer (some ⟨w.heap.size + 1, 0, none⟩), .pointer (some ⟨w.heap.size + 1 + 1, 0, none⟩), .pointer (some ⟨w.heap.size + 1 + 1 + 1, 0, none⟩), .slice none 0 0, .pointer (some ⟨lf, 0, none⟩), .pointer (some ⟨ob, 0, none⟩), .pointer (some ⟨x10, 0, none⟩), .pointer (some ⟨x11, 0, none⟩), .agg (fcells f), .agg (fcells f), .agg (acells .i16 100 g), .agg (flc a), .func (.func 97) #[] #[.pointer (some ⟨Bf, 0, none⟩), .pointer (some ⟨Bf + 1 + 1, 0, none⟩), .pointer (some ⟨Bf + 1, 0, none⟩)], .agg (fcells (fdF f g a (x + 1))), .agg (fdC f g a x), undef, undef, undef, undef, undef, undef, undef, undef, undef, undef], defers := [] } ∧ pre.length < 4 ∧ Mem w W [⟨w.heap.size, fcells f, 30⟩, ⟨w.heap.size + 1, acells .i16 100 g, 36⟩, ⟨w.heap.size + 1 + 1, flc a, 38⟩, ⟨w.heap.size + 1 + 1 + 1, Tryd.zeroCells30, 30⟩, ⟨lf, fcells (fdF f g a (lastK pre)), 30⟩, ⟨ob, #[v], 43⟩, ⟨Bf, fcells f, 30⟩, ⟨Bf + 1, acells .i16 100 g, 36⟩, ⟨Bf + 1 + 1, flc a, 38⟩, ⟨x10, fcells (fdF f g a (x + 1)), 30⟩] ∧ Blk W x11 (fdC f g a x) 32 ∧
      W.ownsRow vz 32 3 v (pre.map (fdV 0 f g a)).length (scells ksVisit (pre.map (fdV 0 f g a)).length (rowsF (pre.map (fdV 0 f g a)))).toList ∧ vz ≤ W.heap.size ∧ KpF w.heap.size [Bf, Bf + 1 + 1, Bf + 1] vz 30 A W)
    (fun A pre x a' s W W' row hs hg hr => by
      obtain ⟨x10, x11, v, h1, h2, h3, M, B, O, Z, KP⟩ := hs
      refine ⟨x10, x11, v, h1, h2, h3, M.grown (B := vz) (by omega) hg (fun r e => ⟨by have := (hr r e).1; omega, (hr r e).2⟩), B.grown hg (fun r e => (hr r e).2), own_turn O hg (fun r e c => by obtain ⟨o, ho, hc⟩ := (hr r e).2; exact noncell_ne ho hc c _), Nat.le_trans Z hg.size, KP.turn hg (by have := M.below.size; omega) (fun k hk => ?_) (fun r e => ⟨by have := (hr r e).1; omega, .inr (fun c => by obtain ⟨o, ho, hc⟩ := (hr r e).2; exact noncell_ne ho hc c _)⟩)⟩
      simp only [List.mem_cons, List.mem_nil_iff, or_false] at hk
      rcases hk with rfl | rfl | rfl <;> exact ⟨by omega, fun e => by have := (hr _ e.symm).1; omega⟩)
    ?assign ?body ?done ?stop
  case assign =>
    rintro l pre x W K ⟨hl4, v, M, O, Z⟩ hlen hK
    have hfn' : ∀ k, (Fence.wide.inRound l).fn k := fun _ => trivial
    gi_upto_region 5 with (refine storeIn hfn' rfl 30 _ _ rfl W.heap.size 0 (fcells (fdF f g a (x + 1))) rfl rfl (((M.alloc Tryd.zeroCells30 30).at 9 rfl).there 0 _ (by simp only [fcells_size, hz.out]; omega)) (by rw [fcells_size]; exact sizeFd) (fcells_one _) ?_)
    have M1 := (M.alloc Tryd.zeroCells30 30).cells 9 0 (fcells (fdF f g a (x + 1))).toList rfl (fcells (fdF f g a (x + 1))) (((M.alloc Tryd.zeroCells30 30).at 9 rfl).over (fcells (fdF f g a (x + 1))) (by rw [fcells_size, hz.out]))
    have B1 : Below W.heap.size W ((W.alloc (.cells Tryd.zeroCells30 30)).setCells W.heap.size 0 (fcells (fdF f g a (x + 1))).toList) := below_setCells (Nat.le_refl _) _ _ _ ((Below.refl _ _).alloc (Nat.le_refl _) _)
    generalize World.setCells _ _ _ _ = W1 at M1 B1 ⊢
    gi_wp2_with (refine storeIn hfn' rfl 32 _ _ rfl W1.heap.size 0 (fdC f g a x) rfl rfl (((M1.alloc #[.int .i8 0, .int .i16 0, .int .i16 0] 32).at 10 rfl).there 0 _ (by show 0 + 3 ≤ 3; omega)) (by exact sizeVis) (by simp [fdC, Value.oneCell']) ?_)
    have M2 := (M1.alloc #[.int .i8 0, .int .i16 0, .int .i16 0] 32).cells 10 0 (fdC f g a x).toList rfl (fdC f g a x) (((M1.alloc #[.int .i8 0, .int .i16 0, .int .i16 0] 32).at 10 rfl).over (fdC f g a x) rfl)
    have B2 : Below W.heap.size W ((W1.alloc (.cells #[.int .i8 0, .int .i16 0, .int .i16 0] 32)).setCells W1.heap.size 0 (fdC f g a x).toList) := below_setCells B1.size _ _ _ (B1.alloc B1.size _)
    refine hK _ _ ((KeepsOthers.of_below B2).from _) ⟨W.heap.size, W1.heap.size, v, Z, rfl, hl4, Mem.frontF M2, M2.at 10 rfl, own_later O B2, Nat.le_trans Z B2.size, (KpF.refl W).later B2 M.below.size (fun k hk => ?_)⟩
    simp only [List.mem_cons, List.mem_nil_iff, or_false] at hk
    rcases hk with rfl | rfl | rfl <;> omega
  case body =>
    rintro l pre x A9 a' W ⟨x10, x11, v, hx10, rfl, hl4, M, B11, O, Z, KP⟩ hlen
    have hfn' : ∀ k, (Fence.wide.inRound l).fn k := fun _ => trivial
    obtain ⟨R, hR⟩ : ∃ R, pre.map (fdV 0 f g a) = R := ⟨_, rfl⟩
    have hlR : R.length = pre.length := by rw [← hR, List.length_map]
    have HSN : Hid ((pre ++ [x]).map (fdV 0 f g a) = R ++ [fdV 0 f g a x]) := Lib.hid (by rw [List.map_append, hR]; rfl)
    have HLK : Hid (lastK (pre ++ [x]) = x + 1) := Lib.hid (lastK_snoc pre x)
    rw [hR] at O
    clear hR
    obtain ⟨p, cc, rfl⟩ := own_shape O
    obtain ⟨FP, hFP⟩ : ∃ FP, fdF f g a (lastK pre) = FP := ⟨_, rfl⟩
    obtain ⟨FN, hFN⟩ : ∃ FN, fdF f g a (x + 1) = FN := ⟨_, rfl⟩
    have HFN := Lib.hid hFN
    rw [hFP, hFN] at M
    rw [hFN]
    clear hFP hFN
    have hsw := M.below.size
    have hne : ∀ y ∈ ([⟨w.heap.size, fcells f, 30⟩, ⟨w.heap.size + 1, acells .i16 100 g, 36⟩, ⟨w.heap.size + 1 + 1, flc a, 38⟩, ⟨w.heap.size + 1 + 1 + 1, Tryd.zeroCells30, 30⟩, ⟨lf, fcells (FP), 30⟩, ⟨ob, #[.slice p R.length cc], 43⟩, ⟨Bf, fcells f, 30⟩, ⟨Bf + 1, acells .i16 100 g, 36⟩, ⟨Bf + 1 + 1, flc a, 38⟩, ⟨x10, fcells FN, 30⟩] : List Ent), y.t ≠ 32 := fun y hy => by
      simp only [List.mem_cons, List.mem_nil_iff, or_false] at hy
      rcases hy with rfl | rfl | rfl | rfl | rfl | rfl | rfl | rfl | rfl | rfl <;> first | exact (by decide : (30 : TypeId) ≠ 32) | exact (by decide : (36 : TypeId) ≠ 32) | exact (by decide : (38 : TypeId) ≠ 32) | exact (by decide : (43 : TypeId) ≠ 32)
    have MD : Mem w W.drew [⟨w.heap.size, fcells f, 30⟩, ⟨w.heap.size + 1, acells .i16 100 g, 36⟩, ⟨w.heap.size + 1 + 1, flc a, 38⟩, ⟨w.heap.size + 1 + 1 + 1, Tryd.zeroCells30, 30⟩, ⟨lf, fcells (FP), 30⟩, ⟨ob, #[.slice p R.length cc], 43⟩, ⟨Bf, fcells f, 30⟩, ⟨Bf + 1, acells .i16 100 g, 36⟩, ⟨Bf + 1 + 1, flc a, 38⟩, ⟨x10, fcells FN, 30⟩] := M.drew
    have hDb : Below W.heap.size W W.drew := (Below.refl _ _).drew
    have hD2b : Below W.heap.size W (W.drew.alloc (.cells (fdC f g a x) 32)) := hDb.alloc (Nat.le_refl _) _
    have MD2 : Mem w (W.drew.alloc (.cells (fdC f g a x) 32)) [⟨w.heap.size, fcells f, 30⟩, ⟨w.heap.size + 1, acells .i16 100 g, 36⟩, ⟨w.heap.size + 1 + 1, flc a, 38⟩, ⟨w.heap.size + 1 + 1 + 1, Tryd.zeroCells30, 30⟩, ⟨lf, fcells (FP), 30⟩, ⟨ob, #[.slice p R.length cc], 43⟩, ⟨Bf, fcells f, 30⟩, ⟨Bf + 1, acells .i16 100 g, 36⟩, ⟨Bf + 1 + 1, flc a, 38⟩, ⟨x10, fcells FN, 30⟩] := MD.other _
    have OD2 := own_later O hD2b
    have a10 : ∀ X, Mem w X [⟨w.heap.size, fcells f, 30⟩, ⟨w.heap.size + 1, acells .i16 100 g, 36⟩, ⟨w.heap.size + 1 + 1, flc a, 38⟩, ⟨w.heap.size + 1 + 1 + 1, Tryd.zeroCells30, 30⟩, ⟨lf, fcells (FP), 30⟩, ⟨ob, #[.slice p R.length cc], 43⟩, ⟨Bf, fcells f, 30⟩, ⟨Bf + 1, acells .i16 100 g, 36⟩, ⟨Bf + 1 + 1, flc a, 38⟩, ⟨x10, fcells FN, 30⟩] → (Instr.loadAt 30 (.pointer (some ⟨x10, 0, none⟩))).run Tryd.prog X = .ok (.agg (fcells FN)) X := fun X MX => run_loadAt_part _ _ 0 30 (fcells FN) _ (MX.at 9 rfl).whole Tryd.underlying30 rfl (by rw [fcells_size]; exact sizeFd)
    have b9 : ∀ X, Mem w X [⟨w.heap.size, fcells f, 30⟩, ⟨w.heap.size + 1, acells .i16 100 g, 36⟩, ⟨w.heap.size + 1 + 1, flc a, 38⟩, ⟨w.heap.size + 1 + 1 + 1, Tryd.zeroCells30, 30⟩, ⟨lf, fcells (FP), 30⟩, ⟨ob, #[.slice p R.length cc], 43⟩, ⟨Bf, fcells f, 30⟩, ⟨Bf + 1, acells .i16 100 g, 36⟩, ⟨Bf + 1 + 1, flc a, 38⟩, ⟨x10, fcells FN, 30⟩] → (Instr.loadAt 43 (.pointer (some ⟨ob, 0, none⟩))).run Tryd.prog X = .ok (.slice p R.length cc) X := fun X MX => by
      have c := (MX.at 5 rfl).cell (i := 0) (v := .slice p R.length cc) rfl
      simp [go_sem, c]
    have c11 : (Instr.loadAt 32 (.pointer (some ⟨x11, 0, none⟩))).run Tryd.prog W.drew = .ok (.agg (fdC f g a x)) W.drew := run_loadAt_part _ _ 0 32 (fdC f g a x) _ (show Blk W.drew x11 (fdC f g a x) 32 from B11).whole Tryd.underlying32 rfl (by exact sizeVis)
    have d22 : (Instr.buildSlice 43 1 #[(0, .agg (fdC f g a x))]).run Tryd.prog W.drew = .ok (.slice (some ⟨W.heap.size, 0, none⟩) 1 1) (W.drew.alloc (.cells (fdC f g a x) 32)) := run_buildSlice_row (P := Tryd.prog) W.drew 43 32 (fdC f g a x) Tryd.underlying43 (by exact sizeVis) (by show _ = some 3; kernel_rfl) (by show 0 < 3; omega) (by show 3 ≤ 2 ^ 24; omega)
    obtain ⟨v', w1, hrun, O1, G1, _, _⟩ := run_append_own_at (P := Tryd.prog) (W.drew.alloc (.cells (fdC f g a x) 32)) vz 43 43 32 i0 (.agg #[.int .i8 0, .int .i16 0, .int .i16 0]) 3 6 Tryd.underlying43 hi hz0 hz1 hz2 rfl (by decide) (.slice p R.length cc) R.length _ OD2 ⟨W.heap.size, 0, none⟩ 1 1 (fdC f g a x).toList rfl
      (row_new W.drew (fdC f g a x).toList 32) (by intro u hu; simp [fdC] at hu; rcases hu with rfl | rfl | rfl <;> rfl) (by unfold maxLen; omega) (by omega) (by simp; omega)
    obtain ⟨p', c', rfl⟩ := own_shape O1
    have M1 := Mem.ownG MD2 OD2 G1 (by omega) hne
    have ownB : ∀ r, (Value.slice p R.length cc).ownBlock = some r → vz ≤ r ∧ ∃ cur, (W.drew.alloc (.cells (fdC f g a x) 32)).heap[r]? = some (.cells cur 32 (0, 0)) := fun r e => ⟨(OD2.lt r e).1, by
      rcases OD2.2 with ⟨h1, _⟩ | ⟨q, cap, cur, h1, _, hb, _⟩
      · rw [h1] at e; cases e
      · rw [h1] at e
        obtain rfl : q = r := by simpa [Value.ownBlock] using e
        exact ⟨cur, hb⟩⟩
    have hks : ∀ k ∈ [Bf, Bf + 1 + 1, Bf + 1], k < vz := fun k hk => by
      simp only [List.mem_cons, List.mem_nil_iff, or_false] at hk
      rcases hk with rfl | rfl | rfl <;> omega
    have hsD2 := hD2b.size
    have KP1 : KpF w.heap.size [Bf, Bf + 1 + 1, Bf + 1] vz 30 A9 w1 := (KP.later hD2b hsw (fun k hk => by have := hks k hk; omega)).turn G1 (by omega) (fun k hk => ⟨by have := hks k hk; omega, fun e => by have h1 := (ownB k e.symm).1; have h2 := hks k hk; omega⟩)
      (fun r e => ⟨by have := (ownB r e).1; omega, .inr (fun c hc => by obtain ⟨cur, h1⟩ := (ownB r e).2; rw [h1] at hc; injection hc with h9; injection h9 with _ h9; exact absurd h9 (by decide))⟩)
    have KO1 : KeepsOthers W w1 := (KeepsOthers.of_below hD2b).trans (KeepsOthers.of_grownBy G1 (fun r o e ho => by obtain ⟨cur, h1⟩ := (ownB r e).2; rw [h1] at ho; cases ho; rfl))
    have Z1 : vz ≤ w1.heap.size := by have := G1.size; omega
    have s8 : (Instr.storeAt 30 (.pointer (some ⟨lf, 0, none⟩)) (.agg (fcells FN))).run Tryd.prog w1 = .ok () (w1.setCells lf 0 (fcells FN).toList) := run_storeAt_mid (P := Tryd.prog) w1 lf 0 30 (fcells FN) ((M1.at 4 rfl).there 0 _ (by simp only [fcells_size]; omega)) (by rw [fcells_size]; exact sizeFd) (fcells_one _)
    have MY := M1.cells 4 0 (fcells FN).toList rfl (fcells FN) ((M1.at 4 rfl).over (fcells FN) (by simp only [fcells_size]))
    have s9 : (Instr.storeAt 43 (.pointer (some ⟨ob, 0, none⟩)) (.slice p' (R.length + 1) c')).run Tryd.prog (w1.setCells lf 0 (fcells FN).toList) = .ok () ((w1.setCells lf 0 (fcells FN).toList).setCell ⟨ob, 0, none⟩ (.slice p' (R.length + 1) c')) := by
      have c := (MY.at 5 rfl).cell (i := 0) (v := .slice p R.length cc) rfl
      have fr := (MY.at 5 rfl).free 0
      simp [go_sem, c, fr]
    have MZ := MY.set 5 0 (.slice p' (R.length + 1) c') rfl #[.slice p' (R.length + 1) c'] rfl
    have OZ := (O1.kept (grown_cells lf (fcells FN).toList 0 w1) (own_ne O1 (by omega))).kept (Ngrown_cell _ ob 0 (.slice p' (R.length + 1) c')) (own_ne (O1.kept (grown_cells lf (fcells FN).toList 0 w1) (own_ne O1 (by omega))) (by omega))
    have g8 := grown_cells lf (fcells FN).toList 0 w1
    have g9 := Ngrown_cell (w1.setCells lf 0 (fcells FN).toList) ob 0 (.slice p' (R.length + 1) c')
    have KZ : KpF w.heap.size [Bf, Bf + 1 + 1, Bf + 1] vz 30 A9 ((w1.setCells lf 0 (fcells FN).toList).setCell ⟨ob, 0, none⟩ (.slice p' (R.length + 1) c')) := by
      have hks2 : ∀ k ∈ [Bf, Bf + 1 + 1, Bf + 1], ob < k := fun k hk => by
        simp only [List.mem_cons, List.mem_nil_iff, or_false] at hk
        rcases hk with rfl | rfl | rfl <;> omega
      have h8 := g8.size
      refine (KP1.turn g8 (by omega) (fun k hk => ⟨by have := hks k hk; omega, fun e => by cases e; have := hks2 _ hk; omega⟩) (fun r e => by cases e; exact ⟨by omega, .inl (by omega)⟩)).turn g9 (by omega) (fun k hk => ⟨by have := hks k hk; omega, fun e => by cases e; have := hks2 _ hk; omega⟩) (fun r e => by cases e; exact ⟨by omega, .inl (by omega)⟩)
    have KOZ : KeepsOthers W ((w1.setCells lf 0 (fcells FN).toList).setCell ⟨ob, 0, none⟩ (.slice p' (R.length + 1) c')) := (KO1.trans (keeps_setCells _ _ _ _)).trans (KeepsOthers.setCell _ _ _)
    have ZZ : vz ≤ ((w1.setCells lf 0 (fcells FN).toList).setCell ⟨ob, 0, none⟩ (.slice p' (R.length + 1) c')).heap.size := by have := g8.size; have := g9.size; omega
    gi_upto_region 6 with (fail)
    refine wpIn_region_any (by kernel_rfl) ?_
    refine with_leaf (fun Q => Q .normal { tmps := #[.agg (fcells f), .agg (acells .i16 100 g), vFlock a, .pointer (some ⟨w.heap.size, 0, none⟩), .pointer (some ⟨w.heap.size + 1, 0, none⟩), .pointer (some ⟨w.heap.size + 1 + 1, 0, none⟩), .pointer (some ⟨w.heap.size + 1 + 1 + 1, 0, none⟩), .slice none 0 0, .pointer (some ⟨lf, 0, none⟩), .pointer (some ⟨ob, 0, none⟩), .pointer (some ⟨x10, 0, none⟩), .pointer (some ⟨x11, 0, none⟩), .agg (fcells f), .agg (fcells f), .agg (acells .i16 100 g), .agg (flc a), .func (.func 97) #[] #[.pointer (some ⟨Bf, 0, none⟩), .pointer (some ⟨Bf + 1 + 1, 0, none⟩), .pointer (some ⟨Bf + 1, 0, none⟩)], .agg (fcells FN), .agg (fdC f g a x), .agg (fcells FN), .slice p R.length cc, .agg (fdC f g a x), .slice (some ⟨W.heap.size, 0, none⟩) 1 1, .slice p' (R.length + 1) c', undef, undef, undef, undef, undef], defers := [] } ((w1.setCells lf 0 (fcells FN).toList).setCell ⟨ob, 0, none⟩ (.slice p' (R.length + 1) c'))) ?_ (fun LEAF => ?_)
    · clear a10 b9 c11 d22 hrun s8 s9 MD MD2 OD2 M1 MY ownB KP1 KO1 O1 g8 g9 M O B11 KP G1 hne
      generalize World.setCell _ _ _ = W9 at MZ OZ KZ KOZ ZZ ⊢
      have c9 := (MZ.at 5 rfl).cell (i := 0) (v := .slice p' (R.length + 1) c') rfl
      have hI : FdI w lf ob Bf vz f g a (pre ++ [x]) W9 := by
        refine ⟨.slice p' (R.length + 1) c', ?_, ?_, ZZ⟩
        · rw [HLK.out, HFN.out]; exact Mem.frontF MZ
        · rw [HSN.out, scells_snoc, cVis_row, List.length_append]; exact OZ
      have hIL := Lib.hid hI
      clear hI OZ MZ
      have hsn : (pre ++ [x]).length = pre.length + 1 := by simp
      by_cases h4 : R.length = 3
      · have h4' : Hid ((pre ++ [x]).length = 4) := Lib.hid (by omega)
        rw [h4] at c9 ⊢
        clear hlR hsn hl4 hlen
        gi_wp2
        exact ⟨KOZ.from _, rfl, h4'.out, hIL.out⟩
      · have h4' : Hid ((pre ++ [x]).length < 4) := Lib.hid (by omega)
        obtain ⟨m, hm⟩ : ∃ m, R.length = m := ⟨_, rfl⟩
        rw [hm] at c9 h4 ⊢
        have hm1 : ¬ ((m : Int) + 1 = 4) := by omega
        have hm2 : ¬ ((m : Int) = 3) := by omega
        clear hlR hsn hl4 hlen hm
        gi_wp2
        exact ⟨KOZ.from _, KZ, h4'.out, hIL.out⟩
    · refine wpAnyIn_all (rs := [0, 1, 2]) (by kernel_rfl) (by decide) (three_ofI ?_ ?_ ?_)
      · refine any_valI (.agg (fcells FN)) 19 hfn' rfl rfl rfl (fun c e => by cases e) (exec_load7 rfl rfl (a10 _ MD)) ?_
        simp only [Act.put, List.setIfInBounds_toArray, List.set_cons_zero, List.set_cons_succ]
        refine wpAnyIn_all (rs := [1, 2]) (by kernel_rfl) (by decide) (two_of7 ?_ ?_)
        · refine any_valI (.slice p R.length cc) 20 hfn' rfl rfl rfl (fun c e => by cases e) (exec_load7 rfl rfl (b9 _ MD)) ?_
          simp only [Act.put, List.setIfInBounds_toArray, List.set_cons_zero, List.set_cons_succ]
          refine wpAnyIn_all (rs := [2]) (by kernel_rfl) (by decide) (one_of7 ?_)
          refine any_valI (.agg (fdC f g a x)) 21 hfn' rfl rfl rfl (fun c e => by cases e) (exec_load7 rfl rfl c11) ?_
          simp only [Act.put, List.setIfInBounds_toArray, List.set_cons_zero, List.set_cons_succ]
          refine wpAnyIn_all (rs := [3]) (by kernel_rfl) (by decide) (one_of7 ?_)
          refine any_valI (.slice (some ⟨W.heap.size, 0, none⟩) 1 1) 22 hfn' rfl rfl rfl (fun c e => by cases e) (exec_build1 rfl rfl d22) ?_
          simp only [Act.put, List.setIfInBounds_toArray, List.set_cons_zero, List.set_cons_succ]
          refine wpAnyIn_all (rs := [4]) (by kernel_rfl) (by decide) (one_of7 ?_)
          refine any_valI (.slice p' (R.length + 1) c') 23 hfn' rfl rfl rfl (fun c e => by cases e) (exec_append rfl rfl rfl hrun) ?_
          simp only [Act.put, List.setIfInBounds_toArray, List.set_cons_zero, List.set_cons_succ]
          refine wpAnyIn_all (rs := [5]) (by kernel_rfl) (by decide) (one_of7 ?_)
          refine any_skipI hfn' rfl rfl (fun c e => by cases e) (exec_store7 rfl rfl rfl s8) ?_
          simp only [Act.put]
          refine wpAnyIn_all (rs := [6]) (by kernel_rfl) (by decide) (one_of7 ?_)
          refine any_skipI hfn' rfl rfl (fun c e => by cases e) (exec_store7 rfl rfl rfl s9) ?_
          simp only [Act.put]
          refine wpAnyIn_done (by kernel_rfl) ?_ _
          exact LEAF
        · refine any_valI (.agg (fdC f g a x)) 21 hfn' rfl rfl rfl (fun c e => by cases e) (exec_load7 rfl rfl c11) ?_
          simp only [Act.put, List.setIfInBounds_toArray, List.set_cons_zero, List.set_cons_succ]
          refine wpAnyIn_all (rs := [1, 3]) (by kernel_rfl) (by decide) (two_of7 ?_ ?_)
          · refine any_valI (.slice p R.length cc) 20 hfn' rfl rfl rfl (fun c e => by cases e) (exec_load7 rfl rfl (b9 _ MD)) ?_
            simp only [Act.put, List.setIfInBounds_toArray, List.set_cons_zero, List.set_cons_succ]
            refine wpAnyIn_all (rs := [3]) (by kernel_rfl) (by decide) (one_of7 ?_)
            refine any_valI (.slice (some ⟨W.heap.size, 0, none⟩) 1 1) 22 hfn' rfl rfl rfl (fun c e => by cases e) (exec_build1 rfl rfl d22) ?_
            simp only [Act.put, List.setIfInBounds_toArray, List.set_cons_zero, List.set_cons_succ]
            refine wpAnyIn_all (rs := [4]) (by kernel_rfl) (by decide) (one_of7 ?_)
            refine any_valI (.slice p' (R.length + 1) c') 23 hfn' rfl rfl rfl (fun c e => by cases e) (exec_append rfl rfl rfl hrun) ?_
            simp only [Act.put, List.setIfInBounds_toArray, List.set_cons_zero, List.set_cons_succ]
            refine wpAnyIn_all (rs := [5]) (by kernel_rfl) (by decide) (one_of7 ?_)
            refine any_skipI hfn' rfl rfl (fun c e => by cases e) (exec_store7 rfl rfl rfl s8) ?_
            simp only [Act.put]
            refine wpAnyIn_all (rs := [6]) (by kernel_rfl) (by decide) (one_of7 ?_)
            refine any_skipI hfn' rfl rfl (fun c e => by cases e) (exec_store7 rfl rfl rfl s9) ?_
            simp only [Act.put]
            refine wpAnyIn_done (by kernel_rfl) ?_ _
            exact LEAF
          · refine any_valI (.slice (some ⟨W.heap.size, 0, none⟩) 1 1) 22 hfn' rfl rfl rfl (fun c e => by cases e) (exec_build1 rfl rfl d22) ?_
            simp only [Act.put, List.setIfInBounds_toArray, List.set_cons_zero, List.set_cons_succ]
            refine wpAnyIn_all (rs := [1]) (by kernel_rfl) (by decide) (one_of7 ?_)
            refine any_valI (.slice p R.length cc) 20 hfn' rfl rfl rfl (fun c e => by cases e) (exec_load7 rfl rfl (b9 _ MD2)) ?_
            simp only [Act.put, List.setIfInBounds_toArray, List.set_cons_zero, List.set_cons_succ]
            refine wpAnyIn_all (rs := [4]) (by kernel_rfl) (by decide) (one_of7 ?_)
            refine any_valI (.slice p' (R.length + 1) c') 23 hfn' rfl rfl rfl (fun c e => by cases e) (exec_append rfl rfl rfl hrun) ?_
            simp only [Act.put, List.setIfInBounds_toArray, List.set_cons_zero, List.set_cons_succ]
            refine wpAnyIn_all (rs := [5]) (by kernel_rfl) (by decide) (one_of7 ?_)
            refine any_skipI hfn' rfl rfl (fun c e => by cases e) (exec_store7 rfl rfl rfl s8) ?_
            simp only [Act.put]
            refine wpAnyIn_all (rs := [6]) (by kernel_rfl) (by decide) (one_of7 ?_)
            refine any_skipI hfn' rfl rfl (fun c e => by cases e) (exec_store7 rfl rfl rfl s9) ?_
            simp only [Act.put]
            refine wpAnyIn_done (by kernel_rfl) ?_ _
            exact LEAF
      · refine any_valI (.slice p R.length cc) 20 hfn' rfl rfl rfl (fun c e => by cases e) (exec_load7 rfl rfl (b9 _ MD)) ?_
        simp only [Act.put, List.setIfInBounds_toArray, List.set_cons_zero, List.set_cons_succ]
        refine wpAnyIn_all (rs := [0, 2]) (by kernel_rfl) (by decide) (two_of7 ?_ ?_)
        · refine any_valI (.agg (fcells FN)) 19 hfn' rfl rfl rfl (fun c e => by cases e) (exec_load7 rfl rfl (a10 _ MD)) ?_
          simp only [Act.put, List.setIfInBounds_toArray, List.set_cons_zero, List.set_cons_succ]
          refine wpAnyIn_all (rs := [2]) (by kernel_rfl) (by decide) (one_of7 ?_)
          refine any_valI (.agg (fdC f g a x)) 21 hfn' rfl rfl rfl (fun c e => by cases e) (exec_load7 rfl rfl c11) ?_
          simp only [Act.put, List.setIfInBounds_toArray, List.set_cons_zero, List.set_cons_succ]
          refine wpAnyIn_all (rs := [3]) (by kernel_rfl) (by decide) (one_of7 ?_)
          refine any_valI (.slice (some ⟨W.heap.size, 0, none⟩) 1 1) 22 hfn' rfl rfl rfl (fun c e => by cases e) (exec_build1 rfl rfl d22) ?_
          simp only [Act.put, List.setIfInBounds_toArray, List.set_cons_zero, List.set_cons_succ]
          refine wpAnyIn_all (rs := [4]) (by kernel_rfl) (by decide) (one_of7 ?_)
          refine any_valI (.slice p' (R.length + 1) c') 23 hfn' rfl rfl rfl (fun c e => by cases e) (exec_append rfl rfl rfl hrun) ?_
          simp only [Act.put, List.setIfInBounds_toArray, List.set_cons_zero, List.set_cons_succ]
          refine wpAnyIn_all (rs := [5]) (by kernel_rfl) (by decide) (one_of7 ?_)
          refine any_skipI hfn' rfl rfl (fun c e => by cases e) (exec_store7 rfl rfl rfl s8) ?_
          simp only [Act.put]
          refine wpAnyIn_all (rs := [6]) (by kernel_rfl) (by decide) (one_of7 ?_)
          refine any_skipI hfn' rfl rfl (fun c e => by cases e) (exec_store7 rfl rfl rfl s9) ?_
          simp only [Act.put]
          refine wpAnyIn_done (by kernel_rfl) ?_ _
          exact LEAF
        · refine any_valI (.agg (fdC f g a x)) 21 hfn' rfl rfl rfl (fun c e => by cases e) (exec_load7 rfl rfl c11) ?_
          simp only [Act.put, List.setIfInBounds_toArray, List.set_cons_zero, List.set_cons_succ]
          refine wpAnyIn_all (rs := [0, 3]) (by kernel_rfl) (by decide) (two_of7 ?_ ?_)
          · refine any_valI (.agg (fcells FN)) 19 hfn' rfl rfl rfl (fun c e => by cases e) (exec_load7 rfl rfl (a10 _ MD)) ?_
            simp only [Act.put, List.setIfInBounds_toArray, List.set_cons_zero, List.set_cons_succ]
            refine wpAnyIn_all (rs := [3]) (by kernel_rfl) (by decide) (one_of7 ?_)
            refine any_valI (.slice (some ⟨W.heap.size, 0, none⟩) 1 1) 22 hfn' rfl rfl rfl (fun c e => by cases e) (exec_build1 rfl rfl d22) ?_
            simp only [Act.put, List.setIfInBounds_toArray, List.set_cons_zero, List.set_cons_succ]
            refine wpAnyIn_all (rs := [4]) (by kernel_rfl) (by decide) (one_of7 ?_)
            refine any_valI (.slice p' (R.length + 1) c') 23 hfn' rfl rfl rfl (fun c e => by cases e) (exec_append rfl rfl rfl hrun) ?_
            simp only [Act.put, List.setIfInBounds_toArray, List.set_cons_zero, List.set_cons_succ]
            refine wpAnyIn_all (rs := [5]) (by kernel_rfl) (by decide) (one_of7 ?_)
            refine any_skipI hfn' rfl rfl (fun c e => by cases e) (exec_store7 rfl rfl rfl s8) ?_
            simp only [Act.put]
            refine wpAnyIn_all (rs := [6]) (by kernel_rfl) (by decide) (one_of7 ?_)
            refine any_skipI hfn' rfl rfl (fun c e => by cases e) (exec_store7 rfl rfl rfl s9) ?_
            simp only [Act.put]
            refine wpAnyIn_done (by kernel_rfl) ?_ _
            exact LEAF
          · refine any_valI (.slice (some ⟨W.heap.size, 0, none⟩) 1 1) 22 hfn' rfl rfl rfl (fun c e => by cases e) (exec_build1 rfl rfl d22) ?_
            simp only [Act.put, List.setIfInBounds_toArray, List.set_cons_zero, List.set_cons_succ]
            refine wpAnyIn_all (rs := [0, 4]) (by kernel_rfl) (by decide) (two_of7 ?_ ?_)
            · refine any_valI (.agg (fcells FN)) 19 hfn' rfl rfl rfl (fun c e => by cases e) (exec_load7 rfl rfl (a10 _ MD2)) ?_
              simp only [Act.put, List.setIfInBounds_toArray, List.set_cons_zero, List.set_cons_succ]
              refine wpAnyIn_all (rs := [4]) (by kernel_rfl) (by decide) (one_of7 ?_)
              refine any_valI (.slice p' (R.length + 1) c') 23 hfn' rfl rfl rfl (fun c e => by cases e) (exec_append rfl rfl rfl hrun) ?_
              simp only [Act.put, List.setIfInBounds_toArray, List.set_cons_zero, List.set_cons_succ]
              refine wpAnyIn_all (rs := [5]) (by kernel_rfl) (by decide) (one_of7 ?_)
              refine any_skipI hfn' rfl rfl (fun c e => by cases e) (exec_store7 rfl rfl rfl s8) ?_
              simp only [Act.put]
              refine wpAnyIn_all (rs := [6]) (by kernel_rfl) (by decide) (one_of7 ?_)
              refine any_skipI hfn' rfl rfl (fun c e => by cases e) (exec_store7 rfl rfl rfl s9) ?_
              simp only [Act.put]
              refine wpAnyIn_done (by kernel_rfl) ?_ _
              exact LEAF
            · refine any_valI (.slice p' (R.length + 1) c') 23 hfn' rfl rfl rfl (fun c e => by cases e) (exec_append rfl rfl rfl hrun) ?_
              simp only [Act.put, List.setIfInBounds_toArray, List.set_cons_zero, List.set_cons_succ]
              refine wpAnyIn_all (rs := [0]) (by kernel_rfl) (by decide) (one_of7 ?_)
              refine any_valI (.agg (fcells FN)) 19 hfn' rfl rfl rfl (fun c e => by cases e) (exec_load7 rfl rfl (a10 _ M1)) ?_
              simp only [Act.put, List.setIfInBounds_toArray, List.set_cons_zero, List.set_cons_succ]
              refine wpAnyIn_all (rs := [5]) (by kernel_rfl) (by decide) (one_of7 ?_)
              refine any_skipI hfn' rfl rfl (fun c e => by cases e) (exec_store7 rfl rfl rfl s8) ?_
              simp only [Act.put]
              refine wpAnyIn_all (rs := [6]) (by kernel_rfl) (by decide) (one_of7 ?_)
              refine any_skipI hfn' rfl rfl (fun c e => by cases e) (exec_store7 rfl rfl rfl s9) ?_
              simp only [Act.put]
              refine wpAnyIn_done (by kernel_rfl) ?_ _
              exact LEAF
      · refine any_valI (.agg (fdC f g a x)) 21 hfn' rfl rfl rfl (fun c e => by cases e) (exec_load7 rfl rfl c11) ?_
        simp only [Act.put, List.setIfInBounds_toArray, List.set_cons_zero, List.set_cons_succ]
        refine wpAnyIn_all (rs := [0, 1, 3]) (by kernel_rfl) (by decide) (three_ofI ?_ ?_ ?_)
        · refine any_valI (.agg (fcells FN)) 19 hfn' rfl rfl rfl (fun c e => by cases e) (exec_load7 rfl rfl (a10 _ MD)) ?_
          simp only [Act.put, List.setIfInBounds_toArray, List.set_cons_zero, List.set_cons_succ]
          refine wpAnyIn_all (rs := [1, 3]) (by kernel_rfl) (by decide) (two_of7 ?_ ?_)
          · refine any_valI (.slice p R.length cc) 20 hfn' rfl rfl rfl (fun c e => by cases e) (exec_load7 rfl rfl (b9 _ MD)) ?_
            simp only [Act.put, List.setIfInBounds_toArray, List.set_cons_zero, List.set_cons_succ]
            refine wpAnyIn_all (rs := [3]) (by kernel_rfl) (by decide) (one_of7 ?_)
            refine any_valI (.slice (some ⟨W.heap.size, 0, none⟩) 1 1) 22 hfn' rfl rfl rfl (fun c e => by cases e) (exec_build1 rfl rfl d22) ?_
            simp only [Act.put, List.setIfInBounds_toArray, List.set_cons_zero, List.set_cons_succ]
            refine wpAnyIn_all (rs := [4]) (by kernel_rfl) (by decide) (one_of7 ?_)
            refine any_valI (.slice p' (R.length + 1) c') 23 hfn' rfl rfl rfl (fun c e => by cases e) (exec_append rfl rfl rfl hrun) ?_
            simp only [Act.put, List.setIfInBounds_toArray, List.set_cons_zero, List.set_cons_succ]
            refine wpAnyIn_all (rs := [5]) (by kernel_rfl) (by decide) (one_of7 ?_)
            refine any_skipI hfn' rfl rfl (fun c e => by cases e) (exec_store7 rfl rfl rfl s8) ?_
            simp only [Act.put]
            refine wpAnyIn_all (rs := [6]) (by kernel_rfl) (by decide) (one_of7 ?_)
            refine any_skipI hfn' rfl rfl (fun c e => by cases e) (exec_store7 rfl rfl rfl s9) ?_
            simp only [Act.put]
            refine wpAnyIn_done (by kernel_rfl) ?_ _
            exact LEAF
          · refine any_valI (.slice (some ⟨W.heap.size, 0, none⟩) 1 1) 22 hfn' rfl rfl rfl (fun c e => by cases e) (exec_build1 rfl rfl d22) ?_
            simp only [Act.put, List.setIfInBounds_toArray, List.set_cons_zero, List.set_cons_succ]
            refine wpAnyIn_all (rs := [1]) (by kernel_rfl) (by decide) (one_of7 ?_)
            refine any_valI (.slice p R.length cc) 20 hfn' rfl rfl rfl (fun c e => by cases e) (exec_load7 rfl rfl (b9 _ MD2)) ?_
            simp only [Act.put, List.setIfInBounds_toArray, List.set_cons_zero, List.set_cons_succ]
            refine wpAnyIn_all (rs := [4]) (by kernel_rfl) (by decide) (one_of7 ?_)
            refine any_valI (.slice p' (R.length + 1) c') 23 hfn' rfl rfl rfl (fun c e => by cases e) (exec_append rfl rfl rfl hrun) ?_
            simp only [Act.put, List.setIfInBounds_toArray, List.set_cons_zero, List.set_cons_succ]
            refine wpAnyIn_all (rs := [5]) (by kernel_rfl) (by decide) (one_of7 ?_)
            refine any_skipI hfn' rfl rfl (fun c e => by cases e) (exec_store7 rfl rfl rfl s8) ?_
            simp only [Act.put]
            refine wpAnyIn_all (rs := [6]) (by kernel_rfl) (by decide) (one_of7 ?_)
            refine any_skipI hfn' rfl rfl (fun c e => by cases e) (exec_store7 rfl rfl rfl s9) ?_
            simp only [Act.put]
            refine wpAnyIn_done (by kernel_rfl) ?_ _
            exact LEAF
        · refine any_valI (.slice p R.length cc) 20 hfn' rfl rfl rfl (fun c e => by cases e) (exec_load7 rfl rfl (b9 _ MD)) ?_
          simp only [Act.put, List.setIfInBounds_toArray, List.set_cons_zero, List.set_cons_succ]
          refine wpAnyIn_all (rs := [0, 3]) (by kernel_rfl) (by decide) (two_of7 ?_ ?_)
          · refine any_valI (.agg (fcells FN)) 19 hfn' rfl rfl rfl (fun c e => by cases e) (exec_load7 rfl rfl (a10 _ MD)) ?_
            simp only [Act.put, List.setIfInBounds_toArray, List.set_cons_zero, List.set_cons_succ]
            refine wpAnyIn_all (rs := [3]) (by kernel_rfl) (by decide) (one_of7 ?_)
            refine any_valI (.slice (some ⟨W.heap.size, 0, none⟩) 1 1) 22 hfn' rfl rfl rfl (fun c e => by cases e) (exec_build1 rfl rfl d22) ?_
            simp only [Act.put, List.setIfInBounds_toArray, List.set_cons_zero, List.set_cons_succ]
            refine wpAnyIn_all (rs := [4]) (by kernel_rfl) (by decide) (one_of7 ?_)
            refine any_valI (.slice p' (R.length + 1) c') 23 hfn' rfl rfl rfl (fun c e => by cases e) (exec_append rfl rfl rfl hrun) ?_
            simp only [Act.put, List.setIfInBounds_toArray, List.set_cons_zero, List.set_cons_succ]
            refine wpAnyIn_all (rs := [5]) (by kernel_rfl) (by decide) (one_of7 ?_)
            refine any_skipI hfn' rfl rfl (fun c e => by cases e) (exec_store7 rfl rfl rfl s8) ?_
            simp only [Act.put]
            refine wpAnyIn_all (rs := [6]) (by kernel_rfl) (by decide) (one_of7 ?_)
            refine any_skipI hfn' rfl rfl (fun c e => by cases e) (exec_store7 rfl rfl rfl s9) ?_
            simp only [Act.put]
            refine wpAnyIn_done (by kernel_rfl) ?_ _
            exact LEAF
          · refine any_valI (.slice (some ⟨W.heap.size, 0, none⟩) 1 1) 22 hfn' rfl rfl rfl (fun c e => by cases e) (exec_build1 rfl rfl d22) ?_
            simp only [Act.put, List.setIfInBounds_toArray, List.set_cons_zero, List.set_cons_succ]
            refine wpAnyIn_all (rs := [0, 4]) (by kernel_rfl) (by decide) (two_of7 ?_ ?_)
            · refine any_valI (.agg (fcells FN)) 19 hfn' rfl rfl rfl (fun c e => by cases e) (exec_load7 rfl rfl (a10 _ MD2)) ?_
              simp only [Act.put, List.setIfInBounds_toArray, List.set_cons_zero, List.set_cons_succ]
              refine wpAnyIn_all (rs := [4]) (by kernel_rfl) (by decide) (one_of7 ?_)
              refine any_valI (.slice p' (R.length + 1) c') 23 hfn' rfl rfl rfl (fun c e => by cases e) (exec_append rfl rfl rfl hrun) ?_
              simp only [Act.put, List.setIfInBounds_toArray, List.set_cons_zero, List.set_cons_succ]
              refine wpAnyIn_all (rs := [5]) (by kernel_rfl) (by decide) (one_of7 ?_)
              refine any_skipI hfn' rfl rfl (fun c e => by cases e) (exec_store7 rfl rfl rfl s8) ?_
              simp only [Act.put]
              refine wpAnyIn_all (rs := [6]) (by kernel_rfl) (by decide) (one_of7 ?_)
              refine any_skipI hfn' rfl rfl (fun c e => by cases e) (exec_store7 rfl rfl rfl s9) ?_
              simp only [Act.put]
              refine wpAnyIn_done (by kernel_rfl) ?_ _
              exact LEAF
            · refine any_valI (.slice p' (R.length + 1) c') 23 hfn' rfl rfl rfl (fun c e => by cases e) (exec_append rfl rfl rfl hrun) ?_
              simp only [Act.put, List.setIfInBounds_toArray, List.set_cons_zero, List.set_cons_succ]
              refine wpAnyIn_all (rs := [0]) (by kernel_rfl) (by decide) (one_of7 ?_)
              refine any_valI (.agg (fcells FN)) 19 hfn' rfl rfl rfl (fun c e => by cases e) (exec_load7 rfl rfl (a10 _ M1)) ?_
              simp only [Act.put, List.setIfInBounds_toArray, List.set_cons_zero, List.set_cons_succ]
              refine wpAnyIn_all (rs := [5]) (by kernel_rfl) (by decide) (one_of7 ?_)
              refine any_skipI hfn' rfl rfl (fun c e => by cases e) (exec_store7 rfl rfl rfl s8) ?_
              simp only [Act.put]
              refine wpAnyIn_all (rs := [6]) (by kernel_rfl) (by decide) (one_of7 ?_)
              refine any_skipI hfn' rfl rfl (fun c e => by cases e) (exec_store7 rfl rfl rfl s9) ?_
              simp only [Act.put]
              refine wpAnyIn_done (by kernel_rfl) ?_ _
              exact LEAF
        · refine any_valI (.slice (some ⟨W.heap.size, 0, none⟩) 1 1) 22 hfn' rfl rfl rfl (fun c e => by cases e) (exec_build1 rfl rfl d22) ?_
          simp only [Act.put, List.setIfInBounds_toArray, List.set_cons_zero, List.set_cons_succ]
          refine wpAnyIn_all (rs := [0, 1]) (by kernel_rfl) (by decide) (two_of7 ?_ ?_)
          · refine any_valI (.agg (fcells FN)) 19 hfn' rfl rfl rfl (fun c e => by cases e) (exec_load7 rfl rfl (a10 _ MD2)) ?_
            simp only [Act.put, List.setIfInBounds_toArray, List.set_cons_zero, List.set_cons_succ]
            refine wpAnyIn_all (rs := [1]) (by kernel_rfl) (by decide) (one_of7 ?_)
            refine any_valI (.slice p R.length cc) 20 hfn' rfl rfl rfl (fun c e => by cases e) (exec_load7 rfl rfl (b9 _ MD2)) ?_
            simp only [Act.put, List.setIfInBounds_toArray, List.set_cons_zero, List.set_cons_succ]
            refine wpAnyIn_all (rs := [4]) (by kernel_rfl) (by decide) (one_of7 ?_)
            refine any_valI (.slice p' (R.length + 1) c') 23 hfn' rfl rfl rfl (fun c e => by cases e) (exec_append rfl rfl rfl hrun) ?_
            simp only [Act.put, List.setIfInBounds_toArray, List.set_cons_zero, List.set_cons_succ]
            refine wpAnyIn_all (rs := [5]) (by kernel_rfl) (by decide) (one_of7 ?_)
            refine any_skipI hfn' rfl rfl (fun c e => by cases e) (exec_store7 rfl rfl rfl s8) ?_
            simp only [Act.put]
            refine wpAnyIn_all (rs := [6]) (by kernel_rfl) (by decide) (one_of7 ?_)
            refine any_skipI hfn' rfl rfl (fun c e => by cases e) (exec_store7 rfl rfl rfl s9) ?_
            simp only [Act.put]
            refine wpAnyIn_done (by kernel_rfl) ?_ _
            exact LEAF
          · refine any_valI (.slice p R.length cc) 20 hfn' rfl rfl rfl (fun c e => by cases e) (exec_load7 rfl rfl (b9 _ MD2)) ?_
            simp only [Act.put, List.setIfInBounds_toArray, List.set_cons_zero, List.set_cons_succ]
            refine wpAnyIn_all (rs := [0, 4]) (by kernel_rfl) (by decide) (two_of7 ?_ ?_)
            · refine any_valI (.agg (fcells FN)) 19 hfn' rfl rfl rfl (fun c e => by cases e) (exec_load7 rfl rfl (a10 _ MD2)) ?_
              simp only [Act.put, List.setIfInBounds_toArray, List.set_cons_zero, List.set_cons_succ]
              refine wpAnyIn_all (rs := [4]) (by kernel_rfl) (by decide) (one_of7 ?_)
              refine any_valI (.slice p' (R.length + 1) c') 23 hfn' rfl rfl rfl (fun c e => by cases e) (exec_append rfl rfl rfl hrun) ?_
              simp only [Act.put, List.setIfInBounds_toArray, List.set_cons_zero, List.set_cons_succ]
              refine wpAnyIn_all (rs := [5]) (by kernel_rfl) (by decide) (one_of7 ?_)
              refine any_skipI hfn' rfl rfl (fun c e => by cases e) (exec_store7 rfl rfl rfl s8) ?_
              simp only [Act.put]
              refine wpAnyIn_all (rs := [6]) (by kernel_rfl) (by decide) (one_of7 ?_)
              refine any_skipI hfn' rfl rfl (fun c e => by cases e) (exec_store7 rfl rfl rfl s9) ?_
              simp only [Act.put]
              refine wpAnyIn_done (by kernel_rfl) ?_ _
              exact LEAF
            · refine any_valI (.slice p' (R.length + 1) c') 23 hfn' rfl rfl rfl (fun c e => by cases e) (exec_append rfl rfl rfl hrun) ?_
              simp only [Act.put, List.setIfInBounds_toArray, List.set_cons_zero, List.set_cons_succ]
              refine wpAnyIn_all (rs := [0]) (by kernel_rfl) (by decide) (one_of7 ?_)
              refine any_valI (.agg (fcells FN)) 19 hfn' rfl rfl rfl (fun c e => by cases e) (exec_load7 rfl rfl (a10 _ M1)) ?_
              simp only [Act.put, List.setIfInBounds_toArray, List.set_cons_zero, List.set_cons_succ]
              refine wpAnyIn_all (rs := [5]) (by kernel_rfl) (by decide) (one_of7 ?_)
              refine any_skipI hfn' rfl rfl (fun c e => by cases e) (exec_store7 rfl rfl rfl s8) ?_
              simp only [Act.put]
              refine wpAnyIn_all (rs := [6]) (by kernel_rfl) (by decide) (one_of7 ?_)
              refine any_skipI hfn' rfl rfl (fun c e => by cases e) (exec_store7 rfl rfl rfl s9) ?_
              simp only [Act.put]
              refine wpAnyIn_done (by kernel_rfl) ?_ _
              exact LEAF
  case done =>
    rintro D xs W5 hD ⟨k, rfl, hWk, hgo⟩ ⟨hl4, v, M, O, Z⟩ hK
    rw [List.length_range] at hl4
    rw [lastK_range] at M
    have O' : W5.ownsRow vz 32 3 v k (scells ksVisit k (rowsF (fdR 0 f g a k))).toList := by
      have h := O
      rw [show ((List.range k).map (fdV 0 f g a)).length = k by simp] at h
      exact h
    have hN : fdN f g a = k := fdN_stop hWk (by omega) hgo
    obtain ⟨FK, hFK⟩ : ∃ FK, fdF f g a k = FK := ⟨_, rfl⟩
    rw [hFK] at M
    obtain ⟨p, cc, rfl⟩ := own_shape O'
    have hsw := M.below.size
    have hDn : D ≠ w.heap.size + 1 + 1 + 1 := by omega
    have MD : Mem w W5.drew [⟨w.heap.size, fcells f, 30⟩, ⟨w.heap.size + 1, acells .i16 100 g, 36⟩, ⟨w.heap.size + 1 + 1, flc a, 38⟩, ⟨w.heap.size + 1 + 1 + 1, Tryd.zeroCells30, 30⟩, ⟨lf, fcells (FK), 30⟩, ⟨ob, #[.slice p k cc], 43⟩, ⟨Bf, fcells f, 30⟩, ⟨Bf + 1, acells .i16 100 g, 36⟩, ⟨Bf + 1 + 1, flc a, 38⟩] := M.drew
    have a8 : ∀ X, Mem w X [⟨w.heap.size, fcells f, 30⟩, ⟨w.heap.size + 1, acells .i16 100 g, 36⟩, ⟨w.heap.size + 1 + 1, flc a, 38⟩, ⟨w.heap.size + 1 + 1 + 1, Tryd.zeroCells30, 30⟩, ⟨lf, fcells (FK), 30⟩, ⟨ob, #[.slice p k cc], 43⟩, ⟨Bf, fcells f, 30⟩, ⟨Bf + 1, acells .i16 100 g, 36⟩, ⟨Bf + 1 + 1, flc a, 38⟩] → (Instr.loadAt 30 (.pointer (some ⟨lf, 0, none⟩))).run Tryd.prog X = .ok (.agg (fcells FK)) X := fun X MX => run_loadAt_part _ _ 0 30 (fcells FK) _ (MX.at 4 rfl).whole Tryd.underlying30 rfl (by rw [fcells_size]; exact sizeFd)
    have b9 : ∀ (X : World) (u : Value), X.cell? ⟨ob, 0, none⟩ = some u → (Instr.loadAt 43 (.pointer (some ⟨ob, 0, none⟩))).run Tryd.prog X = .ok u X := fun X u c => by simp [go_sem, c]
    have s6 : (Instr.storeAt 30 (.pointer (some ⟨w.heap.size + 1 + 1 + 1, 0, none⟩)) (.agg (fcells FK))).run Tryd.prog W5.drew = .ok () (W5.drew.setCells (w.heap.size + 1 + 1 + 1) 0 (fcells FK).toList) := run_storeAt_mid (P := Tryd.prog) W5.drew (w.heap.size + 1 + 1 + 1) 0 30 (fcells FK) ((MD.at 3 rfl).there 0 _ (by simp only [fcells_size, hz.out]; omega)) (by rw [fcells_size]; exact sizeFd) (fcells_one _)
    have MS := MD.cells 3 0 (fcells FK).toList rfl (fcells FK) ((MD.at 3 rfl).over (fcells FK) (by rw [fcells_size, hz.out]))
    have OS := (show W5.drew.ownsRow vz 32 3 (.slice p k cc) k (scells ksVisit k (rowsF (fdR 0 f g a k))).toList from O').kept (grown_cells (w.heap.size + 1 + 1 + 1) (fcells FK).toList 0 W5.drew) (own_ne O' (by omega))
    have hKS : (W5.drew.setCells (w.heap.size + 1 + 1 + 1) 0 (fcells FK).toList).heap[D]? = some (.deferred (some [])) := by rw [look_cells_other _ _ hDn]; exact hK
    gi_upto_region 8 with (fail)
    refine wpIn_region_any (by kernel_rfl) ?_
    refine with_leaf (fun Q => Q .normal { tmps := #[.agg (fcells f), .agg (acells .i16 100 g), vFlock a, .pointer (some ⟨w.heap.size, 0, none⟩), .pointer (some ⟨w.heap.size + 1, 0, none⟩), .pointer (some ⟨w.heap.size + 1 + 1, 0, none⟩), .pointer (some ⟨w.heap.size + 1 + 1 + 1, 0, none⟩), .slice p k cc, .pointer (some ⟨lf, 0, none⟩), .pointer (some ⟨ob, 0, none⟩), undef, undef, .agg (fcells f), .agg (fcells f), .agg (acells .i16 100 g), .agg (flc a), .func (.func 97) #[] #[.pointer (some ⟨Bf, 0, none⟩), .pointer (some ⟨Bf + 1 + 1, 0, none⟩), .pointer (some ⟨Bf + 1, 0, none⟩)], undef, undef, undef, undef, undef, undef, undef, undef, undef, undef, .agg (fcells FK), .slice p k cc], defers := [{ target := .collected D, args := #[] }] } (W5.drew.setCells (w.heap.size + 1 + 1 + 1) 0 (fcells FK).toList)) ?_ (fun LEAF => ?_)
    · clear a8 b9 s6 MD M O O'
      generalize World.setCells _ _ _ _ = W9 at MS OS hKS ⊢
      gi_wp2
      refine ⟨by simp, .inl ⟨_, _, rfl, run_takeDeferred hKS, ?_⟩⟩
      have M7 := MS.taken (o' := .deferred none) (by omega) hKS rfl
      exact ⟨_, results_row_tmp rfl _ _ (w.heap.size + 1 + 1 + 1) 30 _ _ _ rfl (M7.at 3 rfl) Tryd.underlying30 rfl (by rw [fcells_size]; exact sizeFd), fdP_mk hN hFK (ownsRow_putObj OS (.deferred none) hKS rfl) (by omega) M7.below⟩
    · refine wpAnyIn_all (rs := [0, 1]) (by kernel_rfl) (by decide) (two_of7 ?_ ?_)
      · refine any_valI (.agg (fcells FK)) 27 hfn rfl rfl rfl (fun c e => by cases e) (exec_load7 rfl rfl (a8 _ MD)) ?_
        simp only [Act.put, List.setIfInBounds_toArray, List.set_cons_zero, List.set_cons_succ]
        refine wpAnyIn_all (rs := [1, 2]) (by kernel_rfl) (by decide) (two_of7 ?_ ?_)
        · refine any_valI (.slice p k cc) 28 hfn rfl rfl rfl (fun c e => by cases e) (exec_load7 rfl rfl (b9 _ _ ((MD.at 5 rfl).cell (i := 0) rfl))) ?_
          simp only [Act.put, List.setIfInBounds_toArray, List.set_cons_zero, List.set_cons_succ]
          refine wpAnyIn_all (rs := [2]) (by kernel_rfl) (by decide) (one_of7 ?_)
          refine any_skipI hfn rfl rfl (fun c e => by cases e) (exec_store7 rfl rfl rfl s6) ?_
          simp only [Act.put]
          refine wpAnyIn_all (rs := [3]) (by kernel_rfl) (by decide) (one_of7 ?_)
          refine any_valI (.slice p k cc) 7 hfn rfl rfl rfl (fun c e => by cases e) (rfl) ?_
          simp only [Act.put, List.setIfInBounds_toArray, List.set_cons_zero, List.set_cons_succ]
          refine wpAnyIn_done (by kernel_rfl) ?_ _
          exact LEAF
        · refine any_skipI hfn rfl rfl (fun c e => by cases e) (exec_store7 rfl rfl rfl s6) ?_
          simp only [Act.put]
          refine wpAnyIn_all (rs := [1]) (by kernel_rfl) (by decide) (one_of7 ?_)
          refine any_valI (.slice p k cc) 28 hfn rfl rfl rfl (fun c e => by cases e) (exec_load7 rfl rfl (b9 _ _ ((MS.at 5 rfl).cell (i := 0) rfl))) ?_
          simp only [Act.put, List.setIfInBounds_toArray, List.set_cons_zero, List.set_cons_succ]
          refine wpAnyIn_all (rs := [3]) (by kernel_rfl) (by decide) (one_of7 ?_)
          refine any_valI (.slice p k cc) 7 hfn rfl rfl rfl (fun c e => by cases e) (rfl) ?_
          simp only [Act.put, List.setIfInBounds_toArray, List.set_cons_zero, List.set_cons_succ]
          refine wpAnyIn_done (by kernel_rfl) ?_ _
          exact LEAF
      · refine any_valI (.slice p k cc) 28 hfn rfl rfl rfl (fun c e => by cases e) (exec_load7 rfl rfl (b9 _ _ ((MD.at 5 rfl).cell (i := 0) rfl))) ?_
        simp only [Act.put, List.setIfInBounds_toArray, List.set_cons_zero, List.set_cons_succ]
        refine wpAnyIn_all (rs := [0]) (by kernel_rfl) (by decide) (one_of7 ?_)
        refine any_valI (.agg (fcells FK)) 27 hfn rfl rfl rfl (fun c e => by cases e) (exec_load7 rfl rfl (a8 _ MD)) ?_
        simp only [Act.put, List.setIfInBounds_toArray, List.set_cons_zero, List.set_cons_succ]
        refine wpAnyIn_all (rs := [2]) (by kernel_rfl) (by decide) (one_of7 ?_)
        refine any_skipI hfn rfl rfl (fun c e => by cases e) (exec_store7 rfl rfl rfl s6) ?_
        simp only [Act.put]
        refine wpAnyIn_all (rs := [3]) (by kernel_rfl) (by decide) (one_of7 ?_)
        refine any_valI (.slice p k cc) 7 hfn rfl rfl rfl (fun c e => by cases e) (rfl) ?_
        simp only [Act.put, List.setIfInBounds_toArray, List.set_cons_zero, List.set_cons_succ]
        refine wpAnyIn_done (by kernel_rfl) ?_ _
        exact LEAF
  case stop =>
    rintro D c pre W5 hD ⟨k, rfl, hWk⟩ ⟨rfl, hl4, v, M, O, Z⟩ hK
    rw [List.length_range] at hl4
    rw [lastK_range] at M
    have O' : W5.ownsRow vz 32 3 v k (scells ksVisit k (rowsF (fdR 0 f g a k))).toList := by
      have h := O
      rw [show ((List.range k).map (fdV 0 f g a)).length = k by simp] at h
      exact h
    subst hl4
    have hN : fdN f g a = 4 := hWk
    obtain ⟨FK, hFK⟩ : ∃ FK, fdF f g a 4 = FK := ⟨_, rfl⟩
    rw [hFK] at M
    obtain ⟨p, cc, rfl⟩ := own_shape O'
    have hsw := M.below.size
    have hDn : D ≠ w.heap.size + 1 + 1 + 1 := by omega
    have MD : Mem w W5.drew [⟨w.heap.size, fcells f, 30⟩, ⟨w.heap.size + 1, acells .i16 100 g, 36⟩, ⟨w.heap.size + 1 + 1, flc a, 38⟩, ⟨w.heap.size + 1 + 1 + 1, Tryd.zeroCells30, 30⟩, ⟨lf, fcells (FK), 30⟩, ⟨ob, #[.slice p 4 cc], 43⟩, ⟨Bf, fcells f, 30⟩, ⟨Bf + 1, acells .i16 100 g, 36⟩, ⟨Bf + 1 + 1, flc a, 38⟩] := M.drew
    have a8 : ∀ X, Mem w X [⟨w.heap.size, fcells f, 30⟩, ⟨w.heap.size + 1, acells .i16 100 g, 36⟩, ⟨w.heap.size + 1 + 1, flc a, 38⟩, ⟨w.heap.size + 1 + 1 + 1, Tryd.zeroCells30, 30⟩, ⟨lf, fcells (FK), 30⟩, ⟨ob, #[.slice p 4 cc], 43⟩, ⟨Bf, fcells f, 30⟩, ⟨Bf + 1, acells .i16 100 g, 36⟩, ⟨Bf + 1 + 1, flc a, 38⟩] → (Instr.loadAt 30 (.pointer (some ⟨lf, 0, none⟩))).run Tryd.prog X = .ok (.agg (fcells FK)) X := fun X MX => run_loadAt_part _ _ 0 30 (fcells FK) _ (MX.at 4 rfl).whole Tryd.underlying30 rfl (by rw [fcells_size]; exact sizeFd)
    have b9 : ∀ (X : World) (u : Value), X.cell? ⟨ob, 0, none⟩ = some u → (Instr.loadAt 43 (.pointer (some ⟨ob, 0, none⟩))).run Tryd.prog X = .ok u X := fun X u c => by simp [go_sem, c]
    have s6 : (Instr.storeAt 30 (.pointer (some ⟨w.heap.size + 1 + 1 + 1, 0, none⟩)) (.agg (fcells FK))).run Tryd.prog W5.drew = .ok () (W5.drew.setCells (w.heap.size + 1 + 1 + 1) 0 (fcells FK).toList) := run_storeAt_mid (P := Tryd.prog) W5.drew (w.heap.size + 1 + 1 + 1) 0 30 (fcells FK) ((MD.at 3 rfl).there 0 _ (by simp only [fcells_size, hz.out]; omega)) (by rw [fcells_size]; exact sizeFd) (fcells_one _)
    have MS := MD.cells 3 0 (fcells FK).toList rfl (fcells FK) ((MD.at 3 rfl).over (fcells FK) (by rw [fcells_size, hz.out]))
    have OS := (show W5.drew.ownsRow vz 32 3 (.slice p 4 cc) 4 (scells ksVisit 4 (rowsF (fdR 0 f g a 4))).toList from O').kept (grown_cells (w.heap.size + 1 + 1 + 1) (fcells FK).toList 0 W5.drew) (own_ne O' (by omega))
    have hKS : (W5.drew.setCells (w.heap.size + 1 + 1 + 1) 0 (fcells FK).toList).heap[D]? = some (.deferred (some [])) := by rw [look_cells_other _ _ hDn]; exact hK
    gi_upto_region 8 with (fail)
    refine wpIn_region_any (by kernel_rfl) ?_
    refine with_leaf (fun Q => Q .normal { tmps := #[.agg (fcells f), .agg (acells .i16 100 g), vFlock a, .pointer (some ⟨w.heap.size, 0, none⟩), .pointer (some ⟨w.heap.size + 1, 0, none⟩), .pointer (some ⟨w.heap.size + 1 + 1, 0, none⟩), .pointer (some ⟨w.heap.size + 1 + 1 + 1, 0, none⟩), .slice p 4 cc, .pointer (some ⟨lf, 0, none⟩), .pointer (some ⟨ob, 0, none⟩), undef, undef, .agg (fcells f), .agg (fcells f), .agg (acells .i16 100 g), .agg (flc a), .func (.func 97) #[] #[.pointer (some ⟨Bf, 0, none⟩), .pointer (some ⟨Bf + 1 + 1, 0, none⟩), .pointer (some ⟨Bf + 1, 0, none⟩)], undef, undef, undef, undef, undef, undef, undef, undef, undef, undef, .agg (fcells FK), .slice p 4 cc], defers := [{ target := .collected D, args := #[] }] } (W5.drew.setCells (w.heap.size + 1 + 1 + 1) 0 (fcells FK).toList)) ?_ (fun LEAF => ?_)
    · clear a8 b9 s6 MD M O O'
      generalize World.setCells _ _ _ _ = W9 at MS OS hKS ⊢
      gi_wp2
      refine ⟨by simp, .inl ⟨_, _, rfl, run_takeDeferred hKS, ?_⟩⟩
      have M7 := MS.taken (o' := .deferred none) (by omega) hKS rfl
      exact ⟨_, results_row_tmp rfl _ _ (w.heap.size + 1 + 1 + 1) 30 _ _ _ rfl (M7.at 3 rfl) Tryd.underlying30 rfl (by rw [fcells_size]; exact sizeFd), fdP_mk hN hFK (ownsRow_putObj OS (.deferred none) hKS rfl) (by omega) M7.below⟩
    · refine wpAnyIn_all (rs := [0, 1]) (by kernel_rfl) (by decide) (two_of7 ?_ ?_)
      · refine any_valI (.agg (fcells FK)) 27 hfn rfl rfl rfl (fun c e => by cases e) (exec_load7 rfl rfl (a8 _ MD)) ?_
        simp only [Act.put, List.setIfInBounds_toArray, List.set_cons_zero, List.set_cons_succ]
        refine wpAnyIn_all (rs := [1, 2]) (by kernel_rfl) (by decide) (two_of7 ?_ ?_)
        · refine any_valI (.slice p 4 cc) 28 hfn rfl rfl rfl (fun c e => by cases e) (exec_load7 rfl rfl (b9 _ _ ((MD.at 5 rfl).cell (i := 0) rfl))) ?_
          simp only [Act.put, List.setIfInBounds_toArray, List.set_cons_zero, List.set_cons_succ]
          refine wpAnyIn_all (rs := [2]) (by kernel_rfl) (by decide) (one_of7 ?_)
          refine any_skipI hfn rfl rfl (fun c e => by cases e) (exec_store7 rfl rfl rfl s6) ?_
          simp only [Act.put]
          refine wpAnyIn_all (rs := [3]) (by kernel_rfl) (by decide) (one_of7 ?_)
          refine any_valI (.slice p 4 cc) 7 hfn rfl rfl rfl (fun c e => by cases e) (rfl) ?_
          simp only [Act.put, List.setIfInBounds_toArray, List.set_cons_zero, List.set_cons_succ]
          refine wpAnyIn_done (by kernel_rfl) ?_ _
          exact LEAF
        · refine any_skipI hfn rfl rfl (fun c e => by cases e) (exec_store7 rfl rfl rfl s6) ?_
          simp only [Act.put]
          refine wpAnyIn_all (rs := [1]) (by kernel_rfl) (by decide) (one_of7 ?_)
          refine any_valI (.slice p 4 cc) 28 hfn rfl rfl rfl (fun c e => by cases e) (exec_load7 rfl rfl (b9 _ _ ((MS.at 5 rfl).cell (i := 0) rfl))) ?_
          simp only [Act.put, List.setIfInBounds_toArray, List.set_cons_zero, List.set_cons_succ]
          refine wpAnyIn_all (rs := [3]) (by kernel_rfl) (by decide) (one_of7 ?_)
          refine any_valI (.slice p 4 cc) 7 hfn rfl rfl rfl (fun c e => by cases e) (rfl) ?_
          simp only [Act.put, List.setIfInBounds_toArray, List.set_cons_zero, List.set_cons_succ]
          refine wpAnyIn_done (by kernel_rfl) ?_ _
          exact LEAF
      · refine any_valI (.slice p 4 cc) 28 hfn rfl rfl rfl (fun c e => by cases e) (exec_load7 rfl rfl (b9 _ _ ((MD.at 5 rfl).cell (i := 0) rfl))) ?_
        simp only [Act.put, List.setIfInBounds_toArray, List.set_cons_zero, List.set_cons_succ]
        refine wpAnyIn_all (rs := [0]) (by kernel_rfl) (by decide) (one_of7 ?_)
        refine any_valI (.agg (fcells FK)) 27 hfn rfl rfl rfl (fun c e => by cases e) (exec_load7 rfl rfl (a8 _ MD)) ?_
        simp only [Act.put, List.setIfInBounds_toArray, List.set_cons_zero, List.set_cons_succ]
        refine wpAnyIn_all (rs := [2]) (by kernel_rfl) (by decide) (one_of7 ?_)
        refine any_skipI hfn rfl rfl (fun c e => by cases e) (exec_store7 rfl rfl rfl s6) ?_
        simp only [Act.put]
        refine wpAnyIn_all (rs := [3]) (by kernel_rfl) (by decide) (one_of7 ?_)
        refine any_valI (.slice p 4 cc) 7 hfn rfl rfl rfl (fun c e => by cases e) (rfl) ?_
        simp only [Act.put, List.setIfInBounds_toArray, List.set_cons_zero, List.set_cons_succ]
        refine wpAnyIn_done (by kernel_rfl) ?_ _
        exact LEAF
end
section
open Go Go.ChangeShapes Go.WideShapes Go.ChangeAt Go.RowKit

set_option maxRecDepth 100000 in
set_option maxHeartbeats 8000000 in
theorem l02Feed_any (f : Fd) (hf : f.Wf) (hok : okF f = true) (g : Nat → Int) (hg : Wf16 g) (a : Nat → Int) (ha : WfR a) (h0 : 0 ≤ a 0 ∧ a 0 ≤ 99) (h5 : 0 ≤ a 5 ∧ a 5 ≤ 2) (hh : 0 ≤ a 1 * a 2 ∧ a 1 * a 2 ≤ 4000) (u : Nat) (hu : u ≤ 12) (c d o : Nat) (w : World) (G : Blk w c (acells .i16 100 g) 36) (H : FlkAt w d o a) :
    Calls Tryd.prog 51 #[.agg (fcells f), .pointer (some ⟨c, 0, none⟩), .pointer (some ⟨d, o, none⟩), .int .i64 (u : Int)] w (FdQ u f g a w) := by
  have HG := Lib.hid G
  have HH := Lib.hid H
  have HG9 := Lib.hid hg
  have HA9 := Lib.hid ha
  have HOK := Lib.hid (fun k => fd_ok (g := g) hf hok hh k)
  have hz : Hid (Tryd.zeroCells30.size = 202) := Lib.hid (by rw [zeroFd, fcells_size])
  obtain ⟨i0, hi, hz0, hz1, hz2⟩ := info_parts Vinfo
  clear G H hg ha hf hok hh
  go_enter Tryd.func51, Tryd.ntmps51
  go_upto_region 1 with (fail)
  obtain ⟨W, hW, M⟩ := open2 w (fcells f) 30 Tryd.zeroCells30 30
  rw [hW]; clear hW
  obtain ⟨nb, hnb⟩ : ∃ nb, W.heap.size = nb := ⟨_, rfl⟩
  have hlow : w.heap.size + 1 < nb := by rw [← hnb]; exact (M.at 1 rfl).lt
  have R0 : (W.alloc (.cells #[] 32)).ownsRow nb 32 3 (.slice (some ⟨nb, 0, none⟩) 0 0) 0 [] := by rw [← hnb]; exact World.ownsRow_made W #[] 0 (Nat.le_refl _) (Nat.zero_le _) (by simp)
  go_upto_region 2 with (fail)
  have M1 : Mem w (W.alloc (.cells #[] 32)) [⟨w.heap.size, fcells f, 30⟩, ⟨w.heap.size + 1, Tryd.zeroCells30, 30⟩] := M.other _
  have Z1 : nb ≤ (W.alloc (.cells #[] 32)).heap.size := by simp; omega
  try rw [hnb]
  generalize W.alloc (.cells #[] 32) = W1 at R0 M1 Z1 ⊢
  clear M hnb
  go_wp2_with (go_at_call 40; refine (l02Hunger_any a HA9.out d o _ (HH.out.later M1.below)).mono ?_; rintro e W2 ⟨rfl, hb⟩; have M2 := M1.call hb; have R2 := Lib.hid (own_later R0 hb); have Z2 := Nat.le_trans Z1 hb.size; clear hb M1 R0 Z1)
  go_loopw [10, 11] (fun v i wr => ∃ k : Nat, k ≤ 4 ∧ i = .int .i64 (fdL f g a k) ∧ Hid (fdW f g a k = k) ∧ nb ≤ wr.heap.size ∧ Mem w wr [⟨w.heap.size, fcells (fdF f g a k), 30⟩, ⟨w.heap.size + 1, Tryd.zeroCells30, 30⟩] ∧ Hid (wr.ownsRow nb 32 3 v k (scells ksVisit k (rowsF (fdR u f g a k))).toList) ∧ Hid (v ≠ .slice none 0 0)) (fun _ i _ => (intOf i).toNat)
  case atStart => exact ⟨0, by omega, rfl, Lib.hid rfl, Z2, M2, R2, Lib.hid (by simp)⟩
  case round =>
    clear M2 R2 Z2
    obtain ⟨k, hk, rfl, hWk, hZ, M, hO, hnil⟩ := hrel
    obtain ⟨p, cc, hv⟩ := own_shape hO.out
    subst hv
    obtain ⟨q1, q2, q3, q4⟩ := HOK.out k hWk.out
    obtain ⟨FK, hFK⟩ : ∃ FK, fdF f g a k = FK := ⟨_, rfl⟩
    obtain ⟨Lk, hLk⟩ : ∃ Lk, fdL f g a k = Lk := ⟨_, rfl⟩
    have HFK := Lib.hid hFK
    have HLK := Lib.hid hLk
    have HGO : Hid (fdGo f g a k = (decide (0 < Lk) && decide ((mealsR FK g a 100).length ≠ 0))) := Lib.hid (by unfold fdGo; rw [hFK, hLk])
    rw [hFK] at M q1 q2
    rw [hLk] at q3 q4 ⊢
    replace q1 := Lib.hid q1
    replace q2 := Lib.hid q2
    clear hFK hLk
    by_cases hL0 : 0 < Lk
    · by_cases hk4 : k < 4
      · by_cases hlen : (mealsR FK g a 100).length = 0
        · have HN : Hid (fdN f g a = k) := Lib.hid (fdN_stop hWk.out hk (by rw [HGO.out, hlen]; simp))
          have HCV : Hid (chcV (a 5) (mealsR FK g a 100) = -1) := Lib.hid (by unfold chcV; rw [if_pos hlen])
          clear hlen
          have hk4' : (k : Int) < 4 := by omega
          go_upto_region 10 with (go_at_call 39; refine (l02Choice_any FK q2.out g HG9.out a HA9.out h0 h5 w.heap.size c d o _ (M.at 0 rfl) (HG.out.later M.below) (HH.out.later M.below)).mono ?_; rintro e W3 ⟨rfl, hb3⟩; rw [HCV.out]; have MM := M.call hb3; have OM := own_later hO.out hb3; have Z3 := Nat.le_trans hZ hb3.size; clear M hb3)
          go_wp2_with (first
            | (refine wpList_load_part rfl 30 _ rfl w.heap.size 0 rfl (fcells FK) _ (MM.at 0 rfl).whole Tryd.underlying30 rfl (by rw [fcells_size]; exact sizeFd) ?_)
            | (refine wpList_store_row rfl 30 _ _ rfl (w.heap.size + 1) (fcells FK) rfl rfl 30 _ (MM.at 1 rfl) (by rw [fcells_size]; exact sizeFd) (by rw [hz.out, fcells_size]) (fcells_one _) ?_; have MX := MM.row 1 rfl (fcells FK); have OX := own_row OM (by omega : w.heap.size + 1 < nb) (fcells FK); clear MM OM))
          refine bodyPost_ret (results_row_tmp rfl _ _ (w.heap.size + 1) 30 _ _ _ rfl (MX.at 1 rfl) Tryd.underlying30 rfl (by rw [fcells_size]; exact sizeFd)) rfl ?_
          exact fdQ_mk HN.out HFK.out OX hnil.out (by omega) MX.below
        · have hgo : fdGo f g a k = true := by rw [HGO.out]; simp [hL0, hlen]
          obtain ⟨n, hn, he, hb0, hc, s0, s1, eF, eL, m1, m2, m3, eV⟩ := fd_meal (f := f) (g := g) (a := a) (k := k) (by rw [HFK.out]; exact q1.out) hgo
          have HWG := Lib.hid (fdW_go hWk.out hgo)
          rw [HFK.out] at hb0 s0 s1 eF eL m1 m2 m3 eV
          rw [HLK.out] at eF eL m1 m2 m3 eV
          have HCV : Hid (chcV (a 5) (mealsR FK g a 100) = (n : Int)) := Lib.hid (by unfold chcV; rw [if_neg hlen, hb0])
          have HEAT := Lib.hid (fun w => l02Eat_any FK n hn (by omega) s1 Lk (by omega) (by omega) w)
          obtain ⟨x, hx⟩ : ∃ x, minI Lk (FK.S n) = x := ⟨_, rfl⟩
          rw [← eF] at HEAT
          rw [hx] at HEAT eL m1 m2 m3
          have HRC : Hid (rcells ksVisit (fdV (u : Int) f g a k) = [.int .i8 (u : Int), .int .i16 (n : Int), .int .i16 x]) := Lib.hid (fdV_cells (by rw [eV, hx]))
          have HEL := Lib.hid eL
          obtain ⟨FN, hFN⟩ : ∃ FN, fdF f g a (k + 1) = FN := ⟨_, rfl⟩
          have HFN := Lib.hid hFN
          rw [hFN] at HEAT
          have hnn : ¬ ((n : Int) < 0) := by omega
          have hx2 : x ≤ 1000 := by omega
          have hk4' : (k : Int) < 4 := by omega
          have hsub : IntKind.i64.wrap (Lk - x) = Lk - x := IntWalk.i64_in _ (by omega)
          have hwu : IntKind.i8.wrap (u : Int) = (u : Int) := IntWalk.i8_in _ (by omega)
          have hwn : IntKind.i16.wrap (n : Int) = (n : Int) := IntWalk.i16_in _ (by omega)
          have hwx : IntKind.i16.wrap x = x := IntWalk.i16_in _ (by omega)
          clear hlen hgo he hb0 hc s0 s1 eF eL eV hx hFN m3
          go_upto_region 9 with (first
            | (go_at_call 39; refine (l02Choice_any FK q2.out g HG9.out a HA9.out h0 h5 w.heap.size c d o _ (M.at 0 rfl) (HG.out.later M.below) (HH.out.later M.below)).mono ?_; rintro e W3 ⟨rfl, hb3⟩; rw [HCV.out]; have MM := M.call hb3; have OM := own_later hO.out hb3; have Z3 := Nat.le_trans hZ hb3.size; clear M hb3)
            | (refine wpList_load_part rfl 30 _ rfl w.heap.size 0 rfl (fcells FK) _ (MM.at 0 rfl).whole Tryd.underlying30 rfl (by rw [fcells_size]; exact sizeFd) ?_)
            | (go_at_call 41; refine (HEAT.out _).mono ?_; rintro e W4 ⟨rfl, hb4⟩; have MA := (MM.call hb4).alloc Tryd.zeroCells30 30; have OA := own_later OM hb4; have Z4 := Nat.le_trans Z3 hb4.size; clear hb4 MM OM)
            | (refine wpList_store_row rfl 30 _ _ rfl W4.heap.size (fcells FN) rfl rfl 30 _ (MA.at 2 rfl) (by rw [fcells_size]; exact sizeFd) (by rw [hz.out, fcells_size]) (fcells_one _) ?_; have MB := MA.row 2 rfl (fcells FN); have OB := own_later OA (below_row ((Below.refl W4.heap.size W4).alloc (Nat.le_refl _) (.cells Tryd.zeroCells30 30)) (Nat.le_refl _) (fcells FN)); clear MA OA)
            | (refine wpList_load_part rfl 30 _ rfl W4.heap.size 0 rfl (fcells FN) _ (MB.at 2 rfl).whole Tryd.underlying30 rfl (by rw [fcells_size]; exact sizeFd) ?_)
            | (refine wpList_store_row rfl 30 _ _ rfl w.heap.size (fcells FN) rfl rfl 30 _ (MB.at 0 rfl) (by rw [fcells_size]; exact sizeFd) (by simp only [fcells_size]) (fcells_one _) ?_; have MC := MB.row 0 rfl (fcells FN); have OC := own_row OB (by omega : w.heap.size < nb) (fcells FN); have ZC : nb ≤ (((W4.alloc (.cells Tryd.zeroCells30 30)).setRow W4.heap.size (fcells FN)).setRow w.heap.size (fcells FN)).heap.size := (by simp; omega); clear MB OB))
          generalize World.setRow _ _ _ = W7 at MC OC ZC ⊢
          have M7 : Mem w W7 [⟨w.heap.size, fcells FN, 30⟩, ⟨w.heap.size + 1, Tryd.zeroCells30, 30⟩] := Mem.frontF (L := [⟨w.heap.size, fcells FN, 30⟩, ⟨w.heap.size + 1, Tryd.zeroCells30, 30⟩]) MC
          have O7 := Lib.hid OC
          clear MC OC
          have hs7 := M7.below.size
          go_wp2_with (at_builtin; refine wpList_append_own _ rfl _ _ 43 rfl nb 32 i0 (.agg #[.int .i8 0, .int .i16 0, .int .i16 0]) 3 6 Tryd.underlying43 hi hz0 hz1 hz2 rfl (by decide) _ _ _ rfl (O7.out.alloc _) ⟨W7.heap.size, 0, none⟩ 1 1 [.int .i8 (u : Int), .int .i16 (n : Int), .int .i16 x] rfl rfl ?c1 ?c2 ?c3 ?c4 ?c5 ?_)
          case c1 => exact row_new W7 [.int .i8 (u : Int), .int .i16 (n : Int), .int .i16 x] 32
          case c2 => intro u hu; simp at hu; rcases hu with rfl | rfl | rfl <;> rfl
          case c3 => unfold maxLen; omega
          case c4 => omega
          case c5 => simp; omega
          intro v2 w2 ho2 hg2 hnl
          have hnil2 : Hid (v2 ≠ .slice none 0 0) := Lib.hid (by first | exact hnl | exact fun e => hnil.out (hnl.1 e).1)
          clear hnl
          have M8 : Mem w w2 [⟨w.heap.size, fcells FN, 30⟩, ⟨w.heap.size + 1, Tryd.zeroCells30, 30⟩] := Mem.ownG (M7.other (.cells #[.int .i8 (u : Int), .int .i16 (n : Int), .int .i16 x] 32)) (O7.out.alloc _) hg2 (by omega) (by
            intro x hx
            simp only [List.mem_cons, List.mem_nil_iff, or_false] at hx
            rcases hx with rfl | rfl <;> exact (by decide : (30 : TypeId) ≠ 32))
          have O8 : Hid (w2.ownsRow nb 32 3 v2 (k + 1) (scells ksVisit (k + 1) (rowsF (fdR (u : Int) f g a (k + 1)))).toList) := Lib.hid (by
            have hs := scells_snoc ksVisit (fdR (u : Int) f g a k) (fdV (u : Int) f g a k)
            rw [← fdR_snoc, fdR_len, fdR_len, HRC.out] at hs
            rw [hs]; exact ho2)
          have Z8 : nb ≤ w2.heap.size := by have := hg2.size; simp at this; omega
          clear ho2 hg2 O7 M7
          go_wp2_with fail
          go_roundw
          case rel => exact ⟨k + 1, by omega, by rw [HEL.out], HWG, Z8, by rw [HFN.out]; exact M8, O8, hnil2⟩
          case measure => simp [intOf]; omega
      · obtain rfl : k = 4 := by omega
        have HN : Hid (fdN f g a = 4) := Lib.hid hWk.out
        have MM := M
        have OM := hO.out
        clear M
        go_wp2_with (first
          | (refine wpList_load_part rfl 30 _ rfl w.heap.size 0 rfl (fcells FK) _ (MM.at 0 rfl).whole Tryd.underlying30 rfl (by rw [fcells_size]; exact sizeFd) ?_)
          | (refine wpList_store_row rfl 30 _ _ rfl (w.heap.size + 1) (fcells FK) rfl rfl 30 _ (MM.at 1 rfl) (by rw [fcells_size]; exact sizeFd) (by rw [hz.out, fcells_size]) (fcells_one _) ?_; have MX := MM.row 1 rfl (fcells FK); have OX := own_row OM (by omega : w.heap.size + 1 < nb) (fcells FK); clear MM OM))
        refine bodyPost_ret (results_row_tmp rfl _ _ (w.heap.size + 1) 30 _ _ _ rfl (MX.at 1 rfl) Tryd.underlying30 rfl (by rw [fcells_size]; exact sizeFd)) rfl ?_
        exact fdQ_mk HN.out HFK.out OX hnil.out (by omega) MX.below
    · have HN : Hid (fdN f g a = k) := Lib.hid (fdN_stop hWk.out hk (by rw [HGO.out, decide_eq_false hL0]; rfl))
      have MM := M
      have OM := hO.out
      clear M
      go_wp2_with (first
        | (refine wpList_load_part rfl 30 _ rfl w.heap.size 0 rfl (fcells FK) _ (MM.at 0 rfl).whole Tryd.underlying30 rfl (by rw [fcells_size]; exact sizeFd) ?_)
        | (refine wpList_store_row rfl 30 _ _ rfl (w.heap.size + 1) (fcells FK) rfl rfl 30 _ (MM.at 1 rfl) (by rw [fcells_size]; exact sizeFd) (by rw [hz.out, fcells_size]) (fcells_one _) ?_; have MX := MM.row 1 rfl (fcells FK); have OX := own_row OM (by omega : w.heap.size + 1 < nb) (fcells FK); clear MM OM))
      refine bodyPost_ret (results_row_tmp rfl _ _ (w.heap.size + 1) 30 _ _ _ rfl (MX.at 1 rfl) Tryd.underlying30 rfl (by rw [fcells_size]; exact sizeFd)) rfl ?_
      exact fdQ_mk HN.out HFK.out OX hnil.out (by omega) MX.below
end
section
open Go Go.ChangeShapes Go.WideShapes Go.ChangeAt Go.RowKit

def fkF (f : Fd) (g a : Nat → Int) : Fd := if ffOk f g a then fdF f g a (fdN f g a) else Fd.zero
def fkN (f : Fd) (g a : Nat → Int) : Nat := if ffOk f g a then fdN f g a else 0
theorem fkN_le (f : Fd) (g a : Nat → Int) : fkN f g a ≤ 4 := by
  have := fdN_le f g a
  unfold fkN; split <;> omega
theorem fdSt_size (f : Fd) (g a : Nat → Int) : ∀ k, (fdF f g a k).W = f.W ∧ (fdF f g a k).H = f.H
  | 0 => ⟨rfl, rfl⟩
  | k + 1 => fdSt_size f g a k
theorem fkF_size (f : Fd) (hf : f.Wf) (g a : Nat → Int) : (-128 ≤ (fkF f g a).W ∧ (fkF f g a).W ≤ 127) ∧ (-128 ≤ (fkF f g a).H ∧ (fkF f g a).H ≤ 127) := by
  have h1 := hf.W
  have h2 := hf.H
  unfold fkF
  split
  · rw [(fdSt_size f g a _).1, (fdSt_size f g a _).2]; exact ⟨h1, h2⟩
  · exact ⟨⟨by decide, by decide⟩, ⟨by decide, by decide⟩⟩
def FkP (f : Fd) (g a : Nat → Int) (w : World) (e : Ending) (w' : World) : Prop :=
  ∃ p c, e = .returned (.tuple #[.agg (fcells (fkF f g a)), .slice p (fkN f g a) c, .int .i64 (ffCode f g a)]) ∧ SV ksVisit w.heap.size w'.heap.size w' p (fkN f g a) (rowsF (fdR 0 f g a (fkN f g a))) ∧ SW ksVisit 32 w.heap.size w'.heap.size w' p (fkN f g a) ∧ Below w.heap.size w w'
theorem fkP_ok {f : Fd} {g a : Nat → Int} {w w' : World} (hok : ffOk f g a = true) {v : Value} {nb : Nat} (ho : w'.ownsRow nb 32 3 v (fdN f g a) (scells ksVisit (fdN f g a) (rowsF (fdR 0 f g a (fdN f g a)))).toList) (hn : w.heap.size ≤ nb) (hb : Below w.heap.size w w') :
    FkP f g a w (.returned (.tuple #[.agg (fcells (fdF f g a (fdN f g a))), v, .int .i64 0])) w' := by
  have hN : fkN f g a = fdN f g a := by unfold fkN; rw [hok]; rfl
  have hF : fkF f g a = fdF f g a (fdN f g a) := by unfold fkF; rw [hok]; rfl
  have hC : ffCode f g a = 0 := by unfold ffCode; rw [hok]; rfl
  obtain ⟨p, c, rfl, hS⟩ := Sown (ks := ksVisit) ho
  exact ⟨p, c, by rw [hN, hF, hC], by rw [hN]; exact (hS.weak hn).inS, by rw [hN]; exact (hS.weak hn).sw, hb⟩
theorem fkP_bad {f : Fd} {g a : Nat → Int} {w w' : World} (hok : ffOk f g a = false) (p : Option Addr) (c : Nat) (hb : Below w.heap.size w w') : FkP f g a w (.returned (.tuple #[.agg Tryd.zeroCells30, .slice p 0 c, .int .i64 1])) w' := by
  have hN : fkN f g a = 0 := by unfold fkN; rw [hok]; rfl
  have hF : fkF f g a = Fd.zero := by unfold fkF; rw [hok]; rfl
  have hC : ffCode f g a = 1 := by unfold ffCode; rw [hok]; rfl
  exact ⟨p, c, by rw [hN, hF, hC, zeroFd], by rw [hN]; exact .inl rfl, by rw [hN]; exact .inl rfl, hb⟩

set_option maxRecDepth 100000 in
set_option maxHeartbeats 8000000 in
theorem specFeedFlock (f : Fd) (hf : f.Wf) (g : Nat → Int) (hg : Wf16 g) (a : Nat → Int) (ha : WfR a) (w : World) : Calls Tryd.prog 16 #[.agg (fcells f), .agg (acells .i16 100 g), vFlock a] w (FkP f g a w) := by
  have hz : Hid (Tryd.zeroCells30.size = 202) := Lib.hid (by rw [zeroFd, fcells_size])
  have hz1 : Hid (Tryd.zeroCells30.all (·.oneCell') = true) := Lib.hid (by rw [zeroFd]; exact fcells_one _)
  have HAF := Lib.hid ha
  cases hok : ffOk f g a with
  | false =>
    have hcode : ffCode f g a = 1 := by unfold ffCode; rw [hok]; rfl
    have HC := Lib.hid hcode
    have HOK := Lib.hid hok
    clear hok hcode ha
    go_enter Tryd.func16, Tryd.ntmps16
    go_upto_region 1 with (fail)
    obtain ⟨W, hW, M⟩ := open4 w (fcells f) 30 (acells .i16 100 g) 36 (flc a) 38 Tryd.zeroCells30 30
    unfold flc at hW
    rw [hW]; clear hW
    have M2 := M.alloc #[] 32
    go_wp2_with (first
      | (go_at_call 38; refine (l02Asked_any f hf g hg a HAF.out w.heap.size (w.heap.size + 1) (w.heap.size + 1 + 1) 0 _ (M.at 0 rfl) (M.at 1 rfl) (flc_at (M.at 2 rfl))).mono ?_; rintro e w1 ⟨rfl, rfl⟩; rw [HC.out])
      | (refine wpList_store_row rfl 30 _ _ rfl (w.heap.size + 1 + 1 + 1) Tryd.zeroCells30 rfl rfl 30 _ (M2.at 3 rfl) (by rw [hz.out]; exact sizeFd) (by rw [hz.out]) hz1.out ?_; have MX := M2.row 3 rfl Tryd.zeroCells30; clear M2))
    refine bodyPost_ret (results_row_tmp2 rfl _ _ (w.heap.size + 1 + 1 + 1) 30 _ _ _ rfl (MX.at 3 rfl) Tryd.underlying30 rfl (by rw [hz.out]; exact sizeFd)) rfl ?_
    exact fkP_bad HOK.out _ _ MX.below
  | true =>
    have hcode : ffCode f g a = 0 := by unfold ffCode; rw [hok]; rfl
    have HC := Lib.hid hcode
    have HOK := Lib.hid hok
    have hfo := (ff_okF hok).1
    have h0 := flock_tree (ff_okF hok).2.1
    have h5 := flock_taste (ff_okF hok).2.1
    have hhun := flock_hunger (ff_okF hok).2.1
    have HFE := Lib.hid (fun (c d : Nat) (w : World) G H => l02Feed_any f hf hfo g hg a ha h0 h5 hhun 0 (by omega) c d 0 w G H)
    obtain ⟨FF, hFF⟩ : ∃ FF, fdF f g a (fdN f g a) = FF := ⟨_, rfl⟩
    have HFF := Lib.hid hFF
    have HFP : Hid (∀ (w : World) (e : Ending) (w' : World), FdP 0 f g a w e w' → ∃ v, e = .returned (.tuple #[.agg (fcells FF), v]) ∧ w'.ownsRow w.heap.size 32 3 v (fdN f g a) (scells ksVisit (fdN f g a) (rowsF (fdR 0 f g a (fdN f g a)))).toList ∧ Below w.heap.size w w') := Lib.hid (fun w e w' h => by obtain ⟨v, h1, h2, h3⟩ := h; exact ⟨v, by rw [h1, hFF], h2, h3⟩)
    clear hFF
    clear hok hcode ha h0 h5 hhun hfo
    go_enter Tryd.func16, Tryd.ntmps16
    go_upto_region 1 with (fail)
    obtain ⟨W, hW, M⟩ := open4 w (fcells f) 30 (acells .i16 100 g) 36 (flc a) 38 Tryd.zeroCells30 30
    unfold flc at hW
    rw [hW]; clear hW
    go_wp2_with (first
      | (go_at_call 38; refine (l02Asked_any f hf g hg a HAF.out w.heap.size (w.heap.size + 1) (w.heap.size + 1 + 1) 0 _ (M.at 0 rfl) (M.at 1 rfl) (flc_at (M.at 2 rfl))).mono ?_; rintro e w1 ⟨rfl, rfl⟩; rw [HC.out])
      | (refine wpList_load_part rfl 30 _ rfl w.heap.size 0 rfl (fcells f) _ (M.at 0 rfl).whole Tryd.underlying30 rfl (by rw [fcells_size]; exact sizeFd) ?_)
      | (go_at_call 51; refine (HFE.out _ _ _ (M.at 1 rfl) (flc_at (M.at 2 rfl))).mono (fun e w' h => HFP.out _ e w' (h.p)) |>.mono ?_; rintro e W3 ⟨v, rfl, ho, hb⟩; have hlt := (M.at 3 rfl).lt; have MA := (M.call hb).alloc Tryd.zeroCells30 30; clear hb)
      | (refine wpList_store_row rfl 30 _ _ rfl W3.heap.size (fcells FF) rfl rfl 30 _ (MA.at 4 rfl) (by rw [fcells_size]; exact sizeFd) (by rw [hz.out, fcells_size]) (fcells_one _) ?_; have MB := MA.row 4 rfl (fcells FF); have OB := own_later ho (below_row ((Below.refl W3.heap.size W3).alloc (Nat.le_refl _) (.cells Tryd.zeroCells30 30)) (Nat.le_refl _) (fcells FF)); clear MA ho)
      | (refine wpList_load_part rfl 30 _ rfl W3.heap.size 0 rfl (fcells FF) _ (MB.at 4 rfl).whole Tryd.underlying30 rfl (by rw [fcells_size]; exact sizeFd) ?_)
      | (refine wpList_store_row rfl 30 _ _ rfl (w.heap.size + 1 + 1 + 1) (fcells FF) rfl rfl 30 _ (MB.at 3 rfl) (by rw [fcells_size]; exact sizeFd) (by rw [hz.out, fcells_size]) (fcells_one _) ?_; have MC := MB.row 3 rfl (fcells FF); have OC := own_row OB hlt (fcells FF); clear MB OB))
    generalize World.setRow _ _ _ = V9 at MC OC ⊢
    refine bodyPost_ret (results_row_tmp2 rfl _ _ (w.heap.size + 1 + 1 + 1) 30 _ _ _ rfl (MC.at 3 rfl) Tryd.underlying30 rfl (by rw [fcells_size]; exact sizeFd)) rfl ?_
    rw [← HFF.out]
    exact fkP_ok HOK.out OC (by omega) MC.below
set_option maxRecDepth 100000 in
set_option maxHeartbeats 8000000 in
theorem implFeedFlock (f : Fd) (hf : f.Wf) (g : Nat → Int) (hg : Wf16 g) (a : Nat → Int) (ha : WfR a) (A : Nat → Addr) (w : World) (T0 : TabAt w) (S0 : Sents w A) : Calls Tryd.prog 17 #[.agg (fcells f), .agg (acells .i16 100 g), vFlock a] w (FkP f g a w) := by
  have S := Lib.hid S0
  have T := Lib.hid T0
  clear S0 T0
  have hif := isIfaceErr
  have hz : Hid (Tryd.zeroCells30.size = 202) := Lib.hid (by rw [zeroFd, fcells_size])
  have hz1 : Hid (Tryd.zeroCells30.all (·.oneCell') = true) := Lib.hid (by rw [zeroFd]; exact fcells_one _)
  have HAF := Lib.hid ha
  cases hok : ffOk f g a with
  | false =>
    have HOK := Lib.hid hok
    clear hok ha
    go_enter Tryd.func17, Tryd.ntmps17
    go_upto_region 1 with (fail)
    obtain ⟨W, hW, M⟩ := open4 w (fcells f) 30 (acells .i16 100 g) 36 (flc a) 38 Tryd.zeroCells30 30
    unfold flc at hW
    rw [hW]; clear hW
    have oa1 : True := trivial
    have oa2 : True := trivial
    have oa3 : True := trivial
    have oa4 : True := trivial
    have oa5 : True := trivial
    go_wp2_with (first
      | (clear oa1; refine wpList_load_part rfl 30 _ rfl w.heap.size 0 rfl (fcells f) _ (M.at 0 rfl).whole Tryd.underlying30 rfl (by rw [fcells_size]; exact sizeFd) ?_)
      | (clear oa2; refine wpList_load_part rfl 38 _ rfl (w.heap.size + 1 + 1) 0 rfl (flc a) _ (M.at 2 rfl).whole Tryd.underlying38 rfl (by kernel_rfl) ?_)
      | (clear oa3; refine wpList_buildRow rfl 51 38 _ rfl (flc a) rfl Tryd.underlying51 (by rw [flc_size]; kernel_rfl) (by rw [flc_size]; kernel_rfl) (by rw [flc_size]; omega) (by rw [flc_size]; omega) ?_; have MA0 := M.alloc (flc a) 38)
      | (clear oa4; refine wpList_load_part rfl 36 _ rfl (w.heap.size + 1) 0 rfl (acells .i16 100 g) _ (MA0.at 1 rfl).whole Tryd.underlying36 rfl (by rw [acells_size]; exact sizeE) ?_)
      | (clear oa5; refine wpList_buildRow rfl 110 36 _ rfl (acells .i16 100 g) rfl Tryd.underlying110 (by rw [acells_size]; exact sizeE) (by rw [acells_size]; kernel_rfl) (by rw [acells_size]; omega) (by rw [acells_size]; omega) ?_; have MB0 := MA0.alloc (acells .i16 100 g) 36; have HB1 := Lib.hid ((Blk.new W (flc a) 38).alloc (.cells (acells .i16 100 g) 36)); have HB2 := Lib.hid (blk_next W (flc a) 38 (acells .i16 100 g) 36))
      | (go_at_call 44; refine (checkOne f hf g hg a HAF.out A W.heap.size (W.heap.size + 1) 38 36 _ (T.out.later MB0.below) (S.out.later MB0.below) HB1.out HB2.out).mono ?_; rintro e W2 ⟨rfl, hb⟩; rw [HOK.out]; simp only [errIf, Bool.false_eq_true, if_false, if_true]; have M2 := MB0.call hb; clear hb HB1 HB2 MA0 MB0)
      | (go_at_call 45; refine (codeOf_err A 1 (by omega) (by omega) _ (S.out.later M2.below)).mono ?_; rintro e W9 ⟨rfl, rfl⟩)
      | (refine wpList_store_row rfl 30 _ _ rfl (w.heap.size + 1 + 1 + 1) Tryd.zeroCells30 rfl rfl 30 _ (M2.at 3 rfl) (by rw [hz.out]; exact sizeFd) (by rw [hz.out]) hz1.out ?_; have MX := M2.row 3 rfl Tryd.zeroCells30; clear M2))
    refine bodyPost_ret (results_row_tmp2 rfl _ _ (w.heap.size + 1 + 1 + 1) 30 _ _ _ rfl (MX.at 3 rfl) Tryd.underlying30 rfl (by rw [hz.out]; exact sizeFd)) rfl ?_
    exact fkP_bad HOK.out _ _ MX.below
  | true =>
    have hcode : ffCode f g a = 0 := by unfold ffCode; rw [hok]; rfl
    have HC := Lib.hid hcode
    have HOK := Lib.hid hok
    have hfo := (ff_okF hok).1
    have h0 := flock_tree (ff_okF hok).2.1
    have h5 := flock_taste (ff_okF hok).2.1
    have hhun := flock_hunger (ff_okF hok).2.1
    have HFE := Lib.hid (fun (w : World) S => fedFlock_any f hf hfo g hg a ha h0 h5 hhun A w S)
    obtain ⟨FF, hFF⟩ : ∃ FF, fdF f g a (fdN f g a) = FF := ⟨_, rfl⟩
    have HFF := Lib.hid hFF
    have HFP : Hid (∀ (w : World) (e : Ending) (w' : World), FdP 0 f g a w e w' → ∃ v, e = .returned (.tuple #[.agg (fcells FF), v]) ∧ w'.ownsRow w.heap.size 32 3 v (fdN f g a) (scells ksVisit (fdN f g a) (rowsF (fdR 0 f g a (fdN f g a)))).toList ∧ Below w.heap.size w w') := Lib.hid (fun w e w' h => by obtain ⟨v, h1, h2, h3⟩ := h; exact ⟨v, by rw [h1, hFF], h2, h3⟩)
    clear hFF
    clear hok hcode ha h0 h5 hhun hfo
    go_enter Tryd.func17, Tryd.ntmps17
    go_upto_region 1 with (fail)
    obtain ⟨W, hW, M⟩ := open4 w (fcells f) 30 (acells .i16 100 g) 36 (flc a) 38 Tryd.zeroCells30 30
    unfold flc at hW
    rw [hW]; clear hW
    have ok1 : True := trivial
    have ok2 : True := trivial
    have ok3 : True := trivial
    have oa1 : True := trivial
    have oa2 : True := trivial
    have oa3 : True := trivial
    have oa4 : True := trivial
    have oa5 : True := trivial
    go_wp2_with (first
      | (clear oa1; refine wpList_load_part rfl 30 _ rfl w.heap.size 0 rfl (fcells f) _ (M.at 0 rfl).whole Tryd.underlying30 rfl (by rw [fcells_size]; exact sizeFd) ?_)
      | (clear oa2; refine wpList_load_part rfl 38 _ rfl (w.heap.size + 1 + 1) 0 rfl (flc a) _ (M.at 2 rfl).whole Tryd.underlying38 rfl (by kernel_rfl) ?_)
      | (clear oa3; refine wpList_buildRow rfl 51 38 _ rfl (flc a) rfl Tryd.underlying51 (by rw [flc_size]; kernel_rfl) (by rw [flc_size]; kernel_rfl) (by rw [flc_size]; omega) (by rw [flc_size]; omega) ?_; have MA0 := M.alloc (flc a) 38)
      | (clear oa4; refine wpList_load_part rfl 36 _ rfl (w.heap.size + 1) 0 rfl (acells .i16 100 g) _ (MA0.at 1 rfl).whole Tryd.underlying36 rfl (by rw [acells_size]; exact sizeE) ?_)
      | (clear oa5; refine wpList_buildRow rfl 110 36 _ rfl (acells .i16 100 g) rfl Tryd.underlying110 (by rw [acells_size]; exact sizeE) (by rw [acells_size]; kernel_rfl) (by rw [acells_size]; omega) (by rw [acells_size]; omega) ?_; have MB0 := MA0.alloc (acells .i16 100 g) 36; have HB1 := Lib.hid ((Blk.new W (flc a) 38).alloc (.cells (acells .i16 100 g) 36)); have HB2 := Lib.hid (blk_next W (flc a) 38 (acells .i16 100 g) 36))
      | (go_at_call 44; refine (checkOne f hf g hg a HAF.out A W.heap.size (W.heap.size + 1) 38 36 _ (T.out.later MB0.below) (S.out.later MB0.below) HB1.out HB2.out).mono ?_; rintro e W2 ⟨rfl, hb⟩; rw [HOK.out]; simp only [errIf, Bool.false_eq_true, if_false, if_true]; have M2 := MB0.call hb; clear hb HB1 HB2 MA0 MB0)
      | (clear ok1; refine wpList_load_part rfl 30 _ rfl w.heap.size 0 rfl (fcells f) _ (M2.at 0 rfl).whole Tryd.underlying30 rfl (by rw [fcells_size]; exact sizeFd) ?_)
      | (clear ok2; refine wpList_load_part rfl 36 _ rfl (w.heap.size + 1) 0 rfl (acells .i16 100 g) _ (M2.at 1 rfl).whole Tryd.underlying36 rfl (by rw [acells_size]; exact sizeE) ?_)
      | (clear ok3; refine wpList_load_part rfl 38 _ rfl (w.heap.size + 1 + 1) 0 rfl (flc a) _ (M2.at 2 rfl).whole Tryd.underlying38 rfl (by kernel_rfl) ?_)
      | (go_at_call 52; refine (HFE.out _ (S.out.later M2.below)).mono (fun e w' h => HFP.out _ e w' (h)) |>.mono ?_; rintro e W3 ⟨v, rfl, ho, hb⟩; have hlt := (M2.at 3 rfl).lt; have MA := (M2.call hb).alloc Tryd.zeroCells30 30; clear hb)
      | (refine wpList_store_row rfl 30 _ _ rfl W3.heap.size (fcells FF) rfl rfl 30 _ (MA.at 6 rfl) (by rw [fcells_size]; exact sizeFd) (by rw [hz.out, fcells_size]) (fcells_one _) ?_; have MB := MA.row 6 rfl (fcells FF); have OB := own_later ho (below_row ((Below.refl W3.heap.size W3).alloc (Nat.le_refl _) (.cells Tryd.zeroCells30 30)) (Nat.le_refl _) (fcells FF)); clear MA ho)
      | (refine wpList_load_part rfl 30 _ rfl W3.heap.size 0 rfl (fcells FF) _ (MB.at 6 rfl).whole Tryd.underlying30 rfl (by rw [fcells_size]; exact sizeFd) ?_)
      | (refine wpList_store_row rfl 30 _ _ rfl (w.heap.size + 1 + 1 + 1) (fcells FF) rfl rfl 30 _ (MB.at 3 rfl) (by rw [fcells_size]; exact sizeFd) (by rw [hz.out, fcells_size]) (fcells_one _) ?_; have MC := MB.row 3 rfl (fcells FF); have OC := own_row OB hlt (fcells FF); clear MB OB))
    generalize World.setRow _ _ _ = V9 at MC OC ⊢
    refine bodyPost_ret (results_row_tmp2 rfl _ _ (w.heap.size + 1 + 1 + 1) 30 _ _ _ rfl (MC.at 3 rfl) Tryd.underlying30 rfl (by rw [fcells_size]; exact sizeFd)) rfl ?_
    rw [← HFF.out]
    exact fkP_ok HOK.out OC (by omega) MC.below
end
end Go.Proofs.YtaioflkonpommaaDoor
