/-
  Cells that are apart: the model's.
-/
import Derived.Test.YteclngooblafoaaDoorCov
import Derived.Test.YteclngooblafoaaDoorCovC
import Derived.Test.YteclngooblafoaaDoorSetB
import Derived.Test.YteclngooblafoaaDoorLstN
import Derived.Maps.AppendAt
namespace Go.Proofs.YteclngooblafoaaDoor
open Go Go.RowKit

/-- No number is in both sets. -/
def dj (A B : Nat → Int) : Bool := allTo 100 (fun k => !(hasC A (k : Int) && hasC B (k : Int)))
/-- The cells that cover a cell. -/
def cS (f : Fd) (x y : Int) (c : Int) : Nat → Int := cvrS f c.toNat x y
theorem cS_has (f : Fd) (x y : Int) (c : Nat) {k : Nat} (hk : k < 100) : hasC (cS f x y (c : Int)) (k : Int) = (isCell f (k : Int) && cvrQ f c x y k) := by
  unfold cS cvrS
  rw [Int.toNat_natCast, hasC_want f _ hk, decide_eq_true hk, Bool.true_and]
theorem l03Game_any (f : Fd) (hf : f.Wf) (x y : Int) (b : Nat) (w : World) (B : Blk w b (fcells f) 33) :
    Calls Tryd.prog 19 #[.pointer (some ⟨b, 0, none⟩), .int .i64 x, .int .i64 y] w fun e w' => e = .returned (.int .i64 (gmCode f (inB x 1 1000 && inB y 1 1000))) ∧ w = w' := by
  obtain ⟨q, hq⟩ : ∃ q, (inB x 1 1000 && inB y 1 1000) = q := ⟨_, rfl⟩
  have HQ := Lib.hid hq
  have HB := Lib.hid B
  rw [hq]
  clear hq B
  cases ho : okF f with
  | false =>
    rw [gm_no ho]
    go_enter Tryd.func19, Tryd.ntmps19
    go_wp2_with (go_at_call 41; refine (l01Ok_any f hf b _ HB.out).mono ?_; rintro e w1 ⟨rfl, rfl⟩; rw [ho])
    go_ret
    exact ⟨rfl, rfl⟩
  | true =>
    have HO := Lib.hid ho
    have e : gmCode f q = if q then 0 else 2 := by unfold gmCode; rw [ho]; rfl
    rw [e]
    clear e ho
    cases q with
    | false =>
      go_enter Tryd.func19, Tryd.ntmps19
      go_wp2_with (first
        | (go_at_call 41; refine (l01Ok_any f hf b _ HB.out).mono ?_; rintro e w1 ⟨rfl, rfl⟩; rw [HO.out])
        | (go_at_call 42; refine (l03Numbers_any x y _).mono ?_; rintro e w1 ⟨rfl, rfl⟩; rw [HQ.out]))
      go_ret
      exact ⟨rfl, rfl⟩
    | true =>
      go_enter Tryd.func19, Tryd.ntmps19
      go_wp2_with (first
        | (go_at_call 41; refine (l01Ok_any f hf b _ HB.out).mono ?_; rintro e w1 ⟨rfl, rfl⟩; rw [HO.out])
        | (go_at_call 42; refine (l03Numbers_any x y _).mono ?_; rintro e w1 ⟨rfl, rfl⟩; rw [HQ.out]))
      go_ret
      exact ⟨rfl, rfl⟩
/-- Is a cell apart from the first k of some? -/
def fineT (CS : Int → Nat → Int) (out : List Int) (c : Int) (k : Nat) : Bool := allTo k (fun i => dj (CS (out.getD i 0)) (CS c))
/-- The cells of a list that are taken. -/
def apT (CS : Int → Nat → Int) (L : List Int) : Nat → List Int
  | 0 => []
  | k + 1 => if fineT CS (apT CS L k) (L.getD k 0) (apT CS L k).length = true then apT CS L k ++ [L.getD k 0] else apT CS L k
theorem apT_yes {CS : Int → Nat → Int} {L : List Int} {k : Nat} (h : fineT CS (apT CS L k) (L.getD k 0) (apT CS L k).length = true) : apT CS L (k + 1) = apT CS L k ++ [L.getD k 0] := by rw [apT, if_pos h]
theorem apT_no {CS : Int → Nat → Int} {L : List Int} {k : Nat} (h : fineT CS (apT CS L k) (L.getD k 0) (apT CS L k).length = false) : apT CS L (k + 1) = apT CS L k := by rw [apT, if_neg (by rw [h]; decide)]
theorem apT_le (CS : Int → Nat → Int) (L : List Int) : ∀ k, (apT CS L k).length ≤ k
  | 0 => Nat.le_refl _
  | k + 1 => by
    have := apT_le CS L k
    unfold apT; split
    · simp; omega
    · omega
theorem apT_in {CS : Int → Nat → Int} {L : List Int} (hL : ∀ i, i < L.length → 0 ≤ L.getD i 0 ∧ L.getD i 0 ≤ 99) : ∀ k, k ≤ L.length → ∀ c ∈ apT CS L k, 0 ≤ c ∧ c ≤ 99
  | 0, _, c, hc => by simp [apT] at hc
  | k + 1, hk, c, hc => by
    have ih := apT_in (CS := CS) hL k (by omega)
    unfold apT at hc
    split at hc
    · rcases List.mem_append.1 hc with h | h
      · exact ih c h
      · rw [List.mem_singleton] at h; rw [h]; exact hL k (by omega)
    · exact ih c hc
theorem fineT_succ (CS : Int → Nat → Int) (out : List Int) (c : Int) (k : Nat) : fineT CS out c (k + 1) = (fineT CS out c k && dj (CS (out.getD k 0)) (CS c)) := by
  unfold fineT allTo
  rw [List.range_succ, List.all_append]
  simp
theorem owns_belowP {w w' : World} {base : Nat} {e : TypeId} {size : Nat} {v : Value} {n : Nat} {xs : List Value} (h : w.ownsRow base e size v n xs) (hb : Below w.heap.size w w') : w'.ownsRow base e size v n xs :=
  ⟨h.1, h.2.imp id fun ⟨g, cap, cur, h1, h2, h3, h4⟩ => ⟨g, cap, cur, h1, h2, (hb.block g (Array.getElem?_eq_some_iff.1 h3).1).trans h3, h4⟩⟩
def apL (f : Fd) (x y : Int) (t : Nat → Int) : List Int := apT (cS f x y) (hlist (tgS f t) 100) (hlist (tgS f t) 100).length
def apCode (f : Fd) (x y : Int) : Int := gmCode f (inB x 1 1000 && inB y 1 1000)
def apN (f : Fd) (x y : Int) (t : Nat → Int) : Nat := if apCode f x y = 0 then (apL f x y t).length else 0
def apG (f : Fd) (x y : Int) (t : Nat → Int) : Nat → Int := fun i => (apL f x y t).getD i 0
theorem apN_le (f : Fd) (x y : Int) (t : Nat → Int) : apN f x y t ≤ 2 ^ 40 := by
  have h1 := apT_le (cS f x y) (hlist (tgS f t) 100) (hlist (tgS f t) 100).length
  have h2 := hlist_le (tgS f t) 100
  unfold apN apL; split <;> omega
def ApP (f : Fd) (x y : Int) (t : Nat → Int) (w : World) (e : Ending) (w' : World) : Prop :=
  ∃ p c, e = .returned (.tuple #[.slice p (apN f x y t) c, .int .i64 (apCode f x y)]) ∧ NV w.heap.size w'.heap.size w' p (apN f x y t) (apG f x y t) ∧ NW w.heap.size w'.heap.size w' p (apN f x y t) ∧ Below w.heap.size w w'
theorem apP_bad {f : Fd} {x y : Int} {t : Nat → Int} {w w' : World} {c0 : Int} (hc : apCode f x y = c0) (hne : c0 ≠ 0) (p : Option Addr) (c : Nat) (hb : Below w.heap.size w w') : ApP f x y t w (.returned (.tuple #[.slice p 0 c, .int .i64 c0])) w' := by
  have hN : apN f x y t = 0 := by unfold apN; rw [hc, if_neg hne]
  exact ⟨p, c, by rw [hN, hc], .inl hN, .inl hN, hb⟩
theorem apP_ok {f : Fd} {x y : Int} {t : Nat → Int} {w w' : World} {v : Value} {l : List Int} (hc : apCode f x y = 0) (hl : apL f x y t = l) (lo : Nat) (hlo : w.heap.size ≤ lo) (ho : w'.ownsRow lo 2 1 v l.length (l.map (Value.int .i64))) (hb : Below w.heap.size w w') : ApP f x y t w (.returned (.tuple #[v, .int .i64 0])) w' := by
  have hN : apN f x y t = l.length := by unfold apN; rw [hc, if_pos rfl, hl]
  obtain ⟨p, c, rfl, V, X⟩ := Nown rfl ho
  exact ⟨p, c, by rw [hN, hc], by rw [hN]; unfold apG; rw [hl]; exact V.mono hlo (Nat.le_refl _), by rw [hN]; exact X.mono hlo (Nat.le_refl _), hb⟩
theorem InI.grownA {w w' : World} {b o n : Nat} {g : Nat → Int} {row : Option Nat} (h : InI w b o n g) (hg : w.grownBy w' row) (hne : some b ≠ row) : InI w' b o n g := fun i hi => by
  have h1 := h i hi
  have hlt := World.block_lt_of_cell? _ _ h1
  have e : w'.heap[b]? = w.heap[b]? := hg.block b hlt hne
  unfold World.cell? at h1 ⊢
  rw [e]; exact h1
theorem own_outA {W : World} {base : Nat} {e : TypeId} {size : Nat} {v : Value} {k : Nat} {xs : List Value} (h : W.ownsRow base e size v k xs) : ∃ p c, v = .slice p k c := by
  rcases h.2 with ⟨rfl, h0⟩ | ⟨g, cap, _, rfl, _⟩
  · exact ⟨none, 0, by rw [h0]⟩
  · exact ⟨_, cap, rfl⟩
theorem hlistA_in {g : Nat → Int} {i : Nat} (hi : i < (hlist g 100).length) : 0 ≤ (hlist g 100).getD i 0 ∧ (hlist g 100).getD i 0 ≤ 99 := by
  have hm : (hlist g 100).getD i 0 ∈ hlist g 100 := by
    simp [List.getD, List.getElem?_eq_getElem hi]
  simp only [hlist, List.mem_map, List.mem_filter, List.mem_range] at hm
  obtain ⟨c, ⟨h1, _⟩, h2⟩ := hm
  rw [show (hlist g 100).getD i 0 = (c : Int) from h2.symm]
  omega
theorem getD_mem {l : List Int} {i : Nat} (hi : i < l.length) : l.getD i 0 ∈ l := by simp [List.getD, List.getElem?_eq_getElem hi]
end Go.Proofs.YteclngooblafoaaDoor
