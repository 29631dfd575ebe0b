/-
  Lists of int64 that a call hands back: compared, marked, held.
-/
import Derived.Test.YteclngooblafoaaDoorInts
import Derived.RangeFuncOwn
import Derived.Deep.Onto
namespace Go.Proofs.YteclngooblafoaaDoor
open Go Go.RowKit

theorem grown_trans {A B C : World} {row : Option Nat} (h1 : A.grownBy B row) (h2 : B.grownBy C row) : A.grownBy C row :=
  ⟨h2.os.trans h1.os, h2.tape.trans h1.tape, h2.output.trans h1.output, Nat.le_trans h1.size h2.size, fun k hk hne => (h2.block k (Nat.lt_of_lt_of_le hk h1.size) hne).trans (h1.block k hk hne)⟩
theorem grown_cell (W : World) (b i : Nat) (v : Value) : W.grownBy (W.setCell ⟨b, i, none⟩ v) (some b) :=
  ⟨rfl, rfl, rfl, (KeepsWalks.setCell W _ v).size, fun k _ hk => Below.heap_setCell _ _ _ k (fun e => hk (by rw [e]))⟩
theorem grown_drew (W : World) (row : Option Nat) : W.grownBy W row := ⟨rfl, rfl, rfl, Nat.le_refl _, fun _ _ _ => rfl⟩
theorem below_of_grown {lo : Nat} {A B C : World} {b : Nat} (h : Below lo A B) (hl : lo ≤ B.heap.size) (hb : lo ≤ b) (g : B.grownBy C (some b)) : Below lo A C :=
  h.grown g hl (fun k e => by cases e; exact hb)

/-- n numbers of a slice, at the start of its block; or none. -/
def InO (w : World) (p : Option Addr) (n : Nat) (g : Nat → Int) : Prop := n = 0 ∨ ∃ b, p = some ⟨b, 0, none⟩ ∧ InI w b 0 n g
theorem InO.later {w w' : World} {p : Option Addr} {n : Nat} {g : Nat → Int} (h : InO w p n g) (hb : Below w.heap.size w w') : InO w' p n g := by
  rcases h with h | ⟨b, e, J⟩
  · exact .inl h
  · exact .inr ⟨b, e, J.later hb⟩
theorem InO.congr {w : World} {p : Option Addr} {n : Nat} {g g' : Nat → Int} (h : InO w p n g) (e : ∀ i, i < n → g i = g' i) : InO w p n g' := by
  rcases h with h | ⟨b, hp, J⟩
  · exact .inl h
  · exact .inr ⟨b, hp, fun i hi => by rw [← e i hi]; exact J i hi⟩
/-- What lies in another block than the one that turns stays. -/
theorem InO.grown {w w' : World} {p : Option Addr} {n : Nat} {g : Nat → Int} (h : InO w p n g) {b : Nat} (hg : w.grownBy w' (some b)) (hne : ∀ a, p = some a → a.block ≠ b) : InO w' p n g := by
  rcases h with h | ⟨b', hp, J⟩
  · exact .inl h
  · exact .inr ⟨b', hp, fun i hi => hg.cell (J i hi) (fun e => hne _ hp (by simpa using e))⟩
theorem eqInt64S_nil (p q : Option Addr) (c e : Nat) (w : World) : Calls Tryd.prog 10 #[.slice p 0 c, .slice q 0 e] w fun e w' => e = .returned (.bool true) ∧ Below w.heap.size w w' := by
  go_enter Tryd.func10, Tryd.ntmps10
  go_wp2_with fail
  refine wp_loop_rounds 1 ?_
  rw [rounds_succ]
  go_wp2_with fail
  go_ret
  exact ⟨rfl, Below.refl _ _⟩
theorem eqInt64S_O (n : Nat) (hn : n ≤ 2 ^ 40) (g : Nat → Int) (p q : Option Addr) (c e : Nat) (w : World) (J1 : InO w p n g) (J2 : InO w q n g) :
    Calls Tryd.prog 10 #[.slice p n c, .slice q n e] w fun e w' => e = .returned (.bool true) ∧ Below w.heap.size w w' := by
  rcases J1 with rfl | ⟨b, rfl, I1⟩
  · exact eqInt64S_nil p q c e w
  · rcases J2 with rfl | ⟨d, rfl, I2⟩
    · exact eqInt64S_nil _ q c e w
    · exact eqInt64S_same n hn g b d c e w I1 I2
theorem mark_nil (p : Option Addr) (c : Nat) (m : Int) (w : World) : Calls Tryd.prog 17 #[.slice p 0 c, .int .i64 m] w fun e w' => e = .returned (.int .i64 m) ∧ w = w' := by
  go_enter Tryd.func17, Tryd.ntmps17
  go_wp2_with fail
  refine wp_loop_rounds 1 ?_
  rw [rounds_succ]
  go_wp2_with fail
  go_ret
  exact ⟨rfl, rfl⟩
theorem held_nil (p : Option Addr) (c : Nat) (m : Int) (w : World) : Calls Tryd.prog 18 #[.slice p 0 c, .int .i64 m] w fun e w' => e = .returned (.int .i64 m) ∧ w = w' := by
  go_enter Tryd.func18, Tryd.ntmps18
  go_wp2_with fail
  refine wp_loop_rounds 1 ?_
  rw [rounds_succ]
  go_wp2_with fail
  go_ret
  exact ⟨rfl, rfl⟩
set_option maxHeartbeats 800000 in
theorem mark_some (n : Nat) (hn : n ≤ 2 ^ 40) (b c : Nat) (cs : Array Value) (hcs : n ≤ cs.size) (w : World) (B : Blk w b cs 2) :
    Calls Tryd.prog 17 #[.slice (some ⟨b, 0, none⟩) n c, .int .i64 1] w fun e w' => e = .returned (.int .i64 (1 + (n : Int))) ∧ w.grownBy w' (some b) ∧ w'.heap.size = w.heap.size ∧ InI w' b 0 n (fun i => 1 + (i : Int)) := by
  go_enter Tryd.func17, Tryd.ntmps17
  go_wp2_with fail
  go_loopw [1, 5] (fun m i wr => ∃ k : Nat, k ≤ n ∧ i = .int .i64 k ∧ m = .int .i64 (1 + (k : Int)) ∧ Hid (w.grownBy wr (some b)) ∧ Hid (wr.heap.size = w.heap.size) ∧ Hid (InI wr b 0 k (fun i => 1 + (i : Int))) ∧ Hid (∃ cs' : Array Value, n ≤ cs'.size ∧ Blk wr b cs' 2)) (fun _ i _ => n - (intOf i).toNat)
  case atStart => exact ⟨0, by omega, rfl, rfl, Lib.hid (grown_drew _ _), Lib.hid rfl, Lib.hid (fun i hi => by omega), Lib.hid ⟨cs, hcs, B⟩⟩
  case round =>
    obtain ⟨k, hk, rfl, rfl, hgr, hsz, hI, hB⟩ := hrel
    by_cases hlt : k < n
    · obtain ⟨cs', hc', B'⟩ := hB.out
      have c0 := B'.cell (i := k) (Array.getElem?_eq_getElem (show k < cs'.size by omega))
      have e0 := B'.free k
      go_wp2_with fail
      go_roundw
      case rel =>
        refine ⟨k + 1, by omega, by go_num, by go_num, Lib.hid (grown_trans hgr.out (grown_cell _ _ _ _)), Lib.hid (by rw [← hsz.out]; simp), Lib.hid (fun i hi => ?_), Lib.hid ⟨_, by simpa using hc', B'.set k _⟩⟩
        rw [Nat.zero_add]
        by_cases e : i = k
        · subst e
          refine (B'.set i _).cell ?_
          rw [Array.getElem?_setIfInBounds, if_pos rfl, if_pos (by omega)]
        · have h := hI.out i (by omega)
          rw [Nat.zero_add, cell_of_row _ _ _ _ _ _ B'] at h
          refine (B'.set k _).cell ?_
          rw [Array.getElem?_setIfInBounds, if_neg (fun x => e x.symm)]
          exact h
      case measure => simp [intOf]; omega
    · obtain rfl : k = n := by omega
      go_wp2_with fail
      go_ret
      exact ⟨rfl, hgr.out, hsz.out, hI.out⟩
set_option maxHeartbeats 800000 in
theorem held_some (n : Nat) (hn : n ≤ 2 ^ 40) (b c : Nat) (w : World) (I : InI w b 0 n (fun i => 1 + (i : Int))) :
    Calls Tryd.prog 18 #[.slice (some ⟨b, 0, none⟩) n c, .int .i64 1] w fun e w' => e = .returned (.int .i64 (1 + (n : Int))) ∧ Below w.heap.size w w' := by
  have HI := Lib.hid I
  clear I
  go_enter Tryd.func18, Tryd.ntmps18
  go_wp2_with fail
  go_loopw [1, 5] (fun m i wr => ∃ k : Nat, k ≤ n ∧ i = .int .i64 k ∧ m = .int .i64 (1 + (k : Int)) ∧ Below w.heap.size w wr) (fun _ i _ => n - (intOf i).toNat)
  case atStart => exact ⟨0, by omega, rfl, rfl, Below.refl _ _⟩
  case round =>
    obtain ⟨k, hk, rfl, rfl, hb⟩ := hrel
    by_cases hlt : k < n
    · have c0 := (HI.out.later hb) k hlt
      rw [Nat.zero_add] at c0
      go_wp2_with fail
      all_goals go_roundw
      all_goals (first | (case rel => exact ⟨k + 1, by omega, by go_num, by go_num, hb⟩) | skip)
      all_goals (simp [intOf]; omega)
    · obtain rfl : k = n := by omega
      go_wp2_with fail
      go_ret
      exact ⟨rfl, hb⟩
/-- A list that a call hands back. -/
def Lst (lo : Nat) (w : World) (v : Value) (L : List Int) : Prop := w.ownsRow lo 2 1 v L.length (L.map (Value.int .i64))
theorem Lst.val {lo : Nat} {w : World} {v : Value} {L : List Int} (h : Lst lo w v L) : ∃ p c, v = .slice p L.length c ∧ InO w p L.length (fun i => L.getD i 0) ∧ (∀ a, p = some a → lo ≤ a.block ∧ a.block < w.heap.size) ∧
    (L.length = 0 ∨ ∃ b cs, p = some ⟨b, 0, none⟩ ∧ lo ≤ b ∧ L.length ≤ cs.size ∧ Blk w b cs 2) := by
  obtain ⟨_, h | ⟨b, cap, cs, rfl, hb, hB, h1, h2, h3, h4⟩⟩ := h
  · obtain ⟨rfl, h0⟩ := h
    exact ⟨none, 0, by rw [h0], .inl h0, fun a e => by simp at e, .inl h0⟩
  · rw [Nat.mul_one] at h3 h4
    refine ⟨_, cap, rfl, .inr ⟨b, rfl, fun i hi => ?_⟩, fun a e => by cases e; exact ⟨hb, (show Blk w b cs _ from hB).lt⟩, .inr ⟨b, cs, rfl, hb, by omega, hB⟩⟩
    refine (show Blk w b cs _ from hB).cell ?_
    have h5 : (cs.toList.take L.length)[i]? = (L.map (Value.int .i64))[i]? := by rw [h4]
    rw [List.getElem?_take_of_lt hi, List.getElem?_map, List.getElem?_eq_getElem hi] at h5
    rw [Nat.zero_add, ← Array.getElem?_toList, h5]
    simp [List.getD, List.getElem?_eq_getElem hi]
theorem Lst.later {lo : Nat} {w w' : World} {v : Value} {L : List Int} (h : Lst lo w v L) (hb : Below w.heap.size w w') : Lst lo w' v L :=
  ⟨h.1, h.2.imp id fun ⟨g, cap, cur, h1, h2, h3, h4⟩ => ⟨g, cap, cur, h1, h2, (hb.block g (Array.getElem?_eq_some_iff.1 h3).1).trans h3, h4⟩⟩
/-- Behind an append to a list of one's own. -/
theorem app_below {n0 : Nat} {wr w1 : World} {v : Value} {o : Obj} {xs : List Value} {e : TypeId} {sz n : Nat} (hown : wr.ownsRow n0 e sz v n xs) (hn : n0 ≤ wr.heap.size) (hgrow : (wr.alloc o).grownBy w1 v.ownBlock) : Below n0 wr w1 :=
  ((Below.refl n0 wr).alloc hn o).grown hgrow (by simp; omega) (fun j hj => (hown.lt j hj).1)
theorem Lst.snoc {lo : Nat} {w : World} {v : Value} {L : List Int} {x : Int} (h : w.ownsRow lo 2 1 v (L.length + 1) (L.map (Value.int .i64) ++ [.int .i64 x])) : Lst lo w v (L ++ [x]) := by
  unfold Lst; simpa using h
theorem Mem.lower {w0 w w' : World} {L : List Ent} {lo : Nat} (H : Mem w0 w L) (hb : Below lo w w') (h0 : w0.heap.size ≤ lo) (hl : ∀ (i : Nat) (e : Ent), L[i]? = some e → e.b < lo) : Mem w0 w' L :=
  ⟨H.below.trans (hb.mono h0), fun i e h => ⟨(H.blk i e h).1, (H.blk i e h).2.below hb (hl i e h)⟩, H.apart⟩
theorem Mem.lower1 {w0 w w' : World} {e : Ent} {lo : Nat} (H : Mem w0 w [e]) (hb : Below lo w w') (h0 : w0.heap.size ≤ lo) (hl : e.b < lo) : Mem w0 w' [e] :=
  H.lower hb h0 (fun i e' h => by
    match i, h with
    | 0, h => simp at h; subst h; exact hl)
/-- Behind the marks: what the marked list says, and that an elder list says on. -/
theorem marked {p q : Option Addr} {n lo : Nat} {w w' : World} {g : Nat → Int} {b : Nat} (J : InO w q n g) (hq : ∀ a, q = some a → a.block < lo) (hp : ∀ a, p = some a → lo ≤ a.block) (hb : ∀ a, p = some a → n ≠ 0 → a.block = b) (hg : w.grownBy w' (some b)) (he : n ≠ 0 → ∃ a, p = some a) : InO w' q n g := by
  by_cases h0 : n = 0
  · exact .inl h0
  · obtain ⟨a, ha⟩ := he h0
    exact J.grown hg (fun a' h' => by
      have h1 := hq a' h'
      have h2 := hp a ha
      have h3 := hb a ha h0
      omega)
theorem mark_any {lo : Nat} {w : World} {L : List Int} (hn : L.length ≤ 2 ^ 40) (p : Option Addr) (c : Nat) (hB : L.length = 0 ∨ ∃ b cs, p = some ⟨b, 0, none⟩ ∧ lo ≤ b ∧ L.length ≤ cs.size ∧ Blk w b cs 2) :
    Calls Tryd.prog 17 #[.slice p L.length c, .int .i64 1] w fun e w' => e = .returned (.int .i64 (1 + (L.length : Int))) ∧ InO w' p L.length (fun i => 1 + (i : Int)) ∧ ∃ b, (∀ a, p = some a → L.length ≠ 0 → a.block = b) ∧ w.grownBy w' (some b) ∧ Below lo w w' := by
  rcases hB with h0 | ⟨b, cs, rfl, hb, hcs, B⟩
  · rw [h0]
    refine (mark_nil p c 1 w).mono ?_
    rintro e w' ⟨rfl, rfl⟩
    exact ⟨by simp, .inl rfl, w.heap.size, fun a _ h => absurd rfl h, grown_drew _ _, Below.refl _ _⟩
  · refine (mark_some L.length hn b c cs hcs w B).mono ?_
    rintro e w' ⟨rfl, hg, hs, hI⟩
    exact ⟨rfl, .inr ⟨b, rfl, hI⟩, b, fun a h _ => by cases h; rfl, hg, below_of_grown (Below.refl _ _) (by have := B.lt; omega) hb hg⟩
theorem held_any {w : World} {n : Nat} (hn : n ≤ 2 ^ 40) (p : Option Addr) (c : Nat) (hI : InO w p n (fun i => 1 + (i : Int))) :
    Calls Tryd.prog 18 #[.slice p n c, .int .i64 1] w fun e w' => e = .returned (.int .i64 (1 + (n : Int))) ∧ Below w.heap.size w w' := by
  rcases hI with rfl | ⟨b, rfl, I⟩
  · refine (held_nil p c 1 w).mono ?_
    rintro e w' ⟨rfl, rfl⟩
    exact ⟨by simp, Below.refl _ _⟩
  · exact held_some n hn b c w I
end Go.Proofs.YteclngooblafoaaDoor
