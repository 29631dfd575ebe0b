/-
  What a listed row says of its sentinels, as many as they are: each variable's value, its text, and that no two are the same.
-/
import Derived.Test.YtaioflkonpommaaDoorCoreA
import Derived.LaidLaws
import Derived.Stop.LaidErr
namespace Go.Proofs.YtaioflkonpommaaDoor
open Go Go.RowKit Go.ChangeShapes

/-- A variable that holds a sentinel error at a. -/
structure SentAt (P : Program) (W : World) (tp : TypeId) (n : String) (text : List UInt8) (a : Addr) : Prop where
  var : W.var? P n = some #[.iface tp (.pointer (some a))]
  blk : ∃ c t, W.heap[a.block]? = some (.cells c t (0, 0))
  cell : ∃ s : ByteArray, W.cell? a = some (.string s) ∧ s.data.toList = text ∧ s.size ≤ maxLen

theorem sents_of_vars {P : Program} {W : World} {nm : String} {ti tp te ts : TypeId} {ms : Array (String × TypeId)} {f : Field}
    (hi : P.underlying ti = some (.interface ms)) (hrow : ∀ u, P.typeName? 3 u = some nm → u = tp)
    (hp : P.underlying tp = some (.pointer te)) (he : P.underlying te = some (.struct #[f])) (hft : f.type = ts) (hfo : f.offset = 0) (hs : P.underlying ts = some .string) (hc : P.cellsOf te = 1) (hcs : P.cellsOf ts = 1) :
    ∀ (l : List (String × List UInt8)) (rest : List (String × DataW Unit)) (ps : List MemPlace),
      DataW.LaidVars P W (l.map (fun x => (x.1, DataW.iface nm (.ptr (.agg [.lit (.string x.2)])))) ++ rest) ps →
      (∀ x ∈ l, ∃ g, P.globalNamed x.1 = some g ∧ (P.globals[g]?).map (·.type) = some ti) →
      (∀ b off, MemPlace.cell b off ∈ ps → (∃ c t, W.heap[b]? = some (.cells c t (0, 0))) ∧ ∀ u v, W.cell? ⟨b, off, none⟩ = some (.iface u v) → Value.okWide P W .any 0 u v) → ps.Nodup →
      ∃ av : List Addr, av.length = l.length ∧ (∀ a ∈ av, MemPlace.cell a.block a.off ∈ ps) ∧ av.Nodup ∧ ∀ (i : Nat) (x : String × List UInt8) (a : Addr), l[i]? = some x → av[i]? = some a → SentAt P W tp x.1 x.2 a
  | [], _, _, _, _, _, _ => ⟨[], rfl, (fun _ h => by cases h), List.nodup_nil, (fun _ _ _ h => by simp at h)⟩
  | (n, text) :: l, rest, ps, h, hg, hrows, hnd => by
    obtain ⟨g0, t0, cs0, f0, p0, q0, hg0, ht0, hv0, hd0, hq, e0⟩ := h
    obtain ⟨g, hgn, hgt⟩ := hg (n, text) (List.mem_cons_self ..)
    obtain rfl := Option.some.inj (hgn.symm.trans hg0)
    obtain rfl := Option.some.inj (hgt.symm.trans ht0)
    subst e0
    obtain ⟨l0⟩ := cs0
    have ok0 : ∀ u v, l0 = [.iface u v] → Value.okWide P W .any 0 u v := fun u v e => by
      subst e
      exact (hrows g 0 (by simp [MemPlace.row])).2 u v (by simpa using World.var?_cell hg0 hv0 0)
    obtain ⟨a0, s0, rfl, hc0, hs0, hz0, rfl⟩ := errorString_of_trod hi hrow hp he hft hfo hs hc hcs hd0 ok0
    obtain ⟨av, h1, h2, h3, h4⟩ := sents_of_vars hi hrow hp he hft hfo hs hc hcs l rest q0 hq (fun x hx => hg x (List.mem_cons_of_mem _ hx))
      (fun b off hm => hrows b off (List.mem_append_right _ hm)) (List.Nodup.sublist (List.sublist_append_right _ _) hnd)
    have hb0 := (hrows a0.block a0.off (by simp [MemPlace.row])).1
    refine ⟨a0 :: av, by simp [h1], ?_, ?_, ?_⟩
    · intro a ha
      rcases List.mem_cons.1 ha with rfl | ha
      · simp [MemPlace.row]
      · exact List.mem_append_right _ (h2 a ha)
    · refine List.nodup_cons.2 ⟨fun hm => ?_, h3⟩
      have hm2 := h2 a0 hm
      have := (List.nodup_append.1 hnd).2.2 (MemPlace.cell a0.block a0.off) (by simp [MemPlace.row]) _ hm2
      exact this rfl
    · intro i x a hx ha
      cases i with
      | zero =>
        simp at hx ha
        subst hx; subst ha
        exact ⟨hv0, hb0, s0, hc0, hs0, hz0⟩
      | succ i => exact h4 i x a (by simpa using hx) (by simpa using ha)

/-- A variable's cells behind growth. -/
theorem var?_below {P : Program} {W W' : World} {n : String} {cs : Array Value} (h : W.var? P n = some cs) (hb : Below W.heap.size W W') : W'.var? P n = some cs := by
  unfold World.var? at h ⊢
  cases hg : P.globalNamed n with
  | none => simp [hg] at h
  | some g =>
    simp only [hg, Option.bind_some] at h ⊢
    have hlt : g < W.heap.size := by
      rcases Nat.lt_or_ge g W.heap.size with h' | h'
      · exact h'
      · simp [Array.getElem?_eq_none h'] at h
    rw [hb.block g hlt]
    exact h
end Go.Proofs.YtaioflkonpommaaDoor
