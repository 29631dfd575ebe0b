/-
  Shifts: the program's hours.
-/
import Derived.Test.YtieeanpkkpgnfaaDoorShf
import Derived.Test.YtieeanpkkpgnfaaDoorMark
import Derived.Test.YtieeanpkkpgnfaaDoorErr
import Derived.Test.YtieeanpkkpgnfaaDoorRow
import Derived.Deep.QuietTactic
import Derived.BigRegion
import Derived.Laws.AppendOwn
namespace Go.Proofs.YtieeanpkkpgnfaaDoor
open Go Go.RowKit

theorem has_yes (p : Option Addr) (n c : Nat) (x : Nat) (hx : x < n) (w : World) : Calls Tryd.prog 34 #[.slice p n c, .int .i64 x] w fun e w' => e = .returned (.bool true) ∧ w = w' := by
  go_enter Tryd.func34, Tryd.ntmps34
  go_wp2_with fail
  go_ret
  exact ⟨rfl, rfl⟩
theorem has_no (p : Option Addr) (n c : Nat) (x : Int) (hx : x < 0 ∨ (n : Int) ≤ x) (w : World) : Calls Tryd.prog 34 #[.slice p n c, .int .i64 x] w fun e w' => e = .returned (.bool false) ∧ w = w' := by
  by_cases h0 : 0 ≤ x
  · have h1 : decide (x < (n : Int)) = false := decide_eq_false (by omega)
    go_enter Tryd.func34, Tryd.ntmps34
    go_wp2_with fail
    go_ret
    exact ⟨rfl, rfl⟩
  · go_enter Tryd.func34, Tryd.ntmps34
    go_wp2_with fail
    go_ret
    exact ⟨rfl, rfl⟩
/-- A block whose first n cells are the numbers f. -/
def HB (w : World) (b n : Nat) (f : Nat → Int) : Prop := ∃ cs : Array Value, Blk w b cs 2 ∧ n ≤ cs.size ∧ ∀ i, i < n → cs[i]? = some (.int .i64 (f i))
theorem HB.inI {w : World} {b n : Nat} {f : Nat → Int} (h : HB w b n f) : InI w b 0 n f := fun i hi => by
  obtain ⟨cs, hB, _, hc⟩ := h
  rw [Nat.zero_add]; exact hB.cell (hc i hi)
theorem HB.congr {w : World} {b n : Nat} {f g : Nat → Int} (h : HB w b n f) (e : ∀ i, i < n → f i = g i) : HB w b n g := by
  obtain ⟨cs, hB, hs, hc⟩ := h
  exact ⟨cs, hB, hs, fun i hi => by rw [hc i hi, e i hi]⟩
theorem HB.later {w w' : World} {b n : Nat} {f : Nat → Int} (h : HB w b n f) (hb : Below w.heap.size w w') : HB w' b n f := by
  obtain ⟨cs, hB, hs, hc⟩ := h
  exact ⟨cs, hB.later hb, hs, hc⟩
theorem HB.set {w : World} {b n : Nat} {f : Nat → Int} (h : HB w b n f) (k : Nat) (hk : k < n) (x : Int) : HB (w.setCell ⟨b, k, none⟩ (.int .i64 x)) b n (fun i => if i = k then x else f i) := by
  obtain ⟨cs, hB, hs, hc⟩ := h
  refine ⟨_, hB.set k _, by simpa using hs, fun i hi => ?_⟩
  rw [Array.getElem?_setIfInBounds]
  show _ = some (Value.int .i64 (if i = k then x else f i))
  by_cases e : k = i
  · subst e; rw [if_pos rfl, if_pos (by omega), if_pos rfl]
  · rw [if_neg e, if_neg (by omega)]; exact hc i hi
theorem HB.free {w : World} {b n : Nat} {f : Nat → Int} (h : HB w b n f) (i : Nat) : w.frozen? ⟨b, i, none⟩ = false := by
  obtain ⟨cs, hB, _, _⟩ := h; exact hB.free i
theorem HB.lt {w : World} {b n : Nat} {f : Nat → Int} (h : HB w b n f) : b < w.heap.size := by
  obtain ⟨cs, hB, _, _⟩ := h; exact hB.lt
theorem blk_grown {W W' : World} {b b' : Nat} {cs : Array Value} {t : TypeId} (h : Blk W b cs t) (hg : W.grownBy W' (some b')) (hne : b ≠ b') : Blk W' b cs t := by
  unfold Blk; rw [hg.block b h.lt (fun e => hne (Option.some.inj e))]; exact h
theorem grown_alloc (W : World) (o : Obj) (row : Option Nat) : W.grownBy (W.alloc o) row :=
  ⟨rfl, rfl, rfl, by simp, fun k hk _ => by rw [heap_alloc, if_neg (by omega)]⟩
/-- Shifts that begin: what is missing behind them. -/
def behind (f : Nat → Int) (L x cnt : Int) (i : Nat) : Int := if helpB L x i then f i - cnt else f i
set_option maxHeartbeats 2000000 in
theorem begin_any (b n c : Nat) (hn : n ≤ 48) (f : Nat → Int) (x : Nat) (hx : x < n) (L : Int) (hL : 1 ≤ L ∧ L ≤ 48) (cnt : Int) (hc : 0 ≤ cnt ∧ cnt ≤ 1000) (hf : ∀ i, i < n → -2 ^ 41 ≤ f i ∧ f i ≤ 1000) (w : World) (B : HB w b n f) :
    Calls Tryd.prog 27 #[.agg #[.slice (some ⟨b, 0, none⟩) n c, .int .i64 L], .int .i64 x, .int .i64 cnt] w fun e w' => (∃ v, e = .returned v) ∧ Hid (w.grownBy w' (some b)) ∧ Hid (HB w' b n (behind f L x cnt)) := by
  have HF := Lib.hid hf
  have H0 := Lib.hid B
  have hlt := B.lt
  obtain ⟨hL1, hL2⟩ := hL
  obtain ⟨hc1, hc2⟩ := hc
  clear hf B
  go_enter Tryd.func27, Tryd.ntmps27
  go_upto_region 1 with (fail)
  obtain ⟨W, hW, M⟩ := open1 w #[.slice (some ⟨b, 0, none⟩) n c, .int .i64 L] 43
  have hg0 : Hid (w.grownBy W (some b)) := Lib.hid (by rw [← hW]; exact grown_alloc _ _ _)
  have hB0 : Hid (HB W b n f) := Lib.hid (H0.out.later M.below)
  rw [hW]; clear hW H0
  have c0 := (M.at 0 rfl).cell (i := 0) rfl
  have c1 := (M.at 0 rfl).cell (i := 1) rfl
  have BX : Hid (Blk W w.heap.size #[.slice (some ⟨b, 0, none⟩) n c, .int .i64 L] 43) := Lib.hid (M.at 0 rfl)
  clear M
  go_wp2_with fail
  clear c0 c1
  go_loopw [1] (fun i wr => ∃ k : Nat, x ≤ k ∧ k ≤ n ∧ (k : Int) ≤ x + L ∧ i = .int .i64 k ∧ Hid (w.grownBy wr (some b)) ∧ Hid (HB wr b n (fun j => if j < k then behind f L x cnt j else f j)) ∧ Hid (Blk wr w.heap.size #[.slice (some ⟨b, 0, none⟩) n c, .int .i64 L] 43)) (fun i _ => n - (intOf i).toNat)
  case atStart => exact ⟨x, by omega, by omega, by omega, rfl, hg0, Lib.hid (hB0.out.congr (fun i hi => by
      by_cases e : i < x
      · rw [if_pos e, behind, if_neg (by simp [helpB]; omega)]
      · rw [if_neg e])), BX⟩
  case round =>
    clear hg0 hB0 BX
    obtain ⟨k, hk1, hk2, hk3, rfl, hg, hB, hX⟩ := hrel
    have c0 := hX.out.cell (i := 0) rfl
    have c1 := hX.out.cell (i := 1) rfl
    by_cases hlt1 : k < n
    · by_cases hlt2 : (k : Int) < x + L
      · have d0 := hB.out.inI k hlt1
        rw [Nat.zero_add, if_neg (by omega)] at d0
        have e0 := hB.out.free k
        obtain ⟨f1, f2⟩ := HF.out k hlt1
        go_wp2_with (go_at_call 34; refine (has_yes _ n c k hlt1 _).mono ?_; rintro e w' ⟨rfl, rfl⟩)
        go_roundw
        case rel =>
          refine ⟨k + 1, by omega, by omega, by omega, by go_num, Lib.hid (grown_trans hg.out (grown_cell _ _ _ _)), Lib.hid ((hB.out.set k hlt1 _).congr (fun i hi => ?_)), Lib.hid (blk_grown hX.out (grown_cell _ _ _ _) (by omega))⟩
          by_cases e : i = k
          · subst e
            rw [if_pos rfl, if_pos (by omega), behind, if_pos (by simp [helpB]; omega)]
          · rw [if_neg e]
            by_cases e2 : i < k
            · rw [if_pos e2, if_pos (by omega)]
            · rw [if_neg e2, if_neg (by omega)]
        case measure => simp [intOf]; omega
      · go_wp2_with (go_at_call 34; refine (has_yes _ n c k hlt1 _).mono ?_; rintro e w' ⟨rfl, rfl⟩)
        go_end0
        exact ⟨⟨_, rfl⟩, hg, Lib.hid (hB.out.congr (fun i hi => by
          by_cases e : i < k
          · rw [if_pos e]
          · rw [if_neg e, behind, if_neg (by simp [helpB]; omega)]))⟩
    · obtain rfl : k = n := by omega
      go_wp2_with (go_at_call 34; refine (has_no _ k c k (by omega) _).mono ?_; rintro e w' ⟨rfl, rfl⟩)
      go_end0
      exact ⟨⟨_, rfl⟩, hg, Lib.hid (hB.out.congr (fun i hi => by rw [if_pos hi]))⟩
end Go.Proofs.YtieeanpkkpgnfaaDoor
