/-
  What is seen on a beat: the model's minutes, the program's.
-/
import Derived.Test.YtfchbdbfokpcdaaDoorBtC
import Derived.Test.YtfchbdbfokpcdaaDoorLstN
namespace Go.Proofs.YtfchbdbfokpcdaaDoor
open Go Go.RowKit

/-- Whether one of the first watchers sees a cell in a minute. -/
def seenW (n : Nat) (g : Nat → Int) (s : Int) (c : Nat) (W k : Nat) : Nat → Bool
  | 0 => false
  | j + 1 => seenW n g s c W k j || decide (sq (g ((k + j * n / W) % n)) c ≤ s)
def seenB (n : Nat) (g : Nat → Int) (s : Int) (c : Nat) (W k : Nat) : Bool := seenW n g s c W k W
theorem seenW_yes {n : Nat} {g : Nat → Int} {s : Int} {c W k : Nat} {j m : Nat} (hj : j < m) (h : sq (g ((k + j * n / W) % n)) c ≤ s) : seenW n g s c W k m = true := by
  induction m with
  | zero => omega
  | succ m ih =>
    rw [seenW]
    by_cases e : j = m
    · subst e; rw [decide_eq_true h, Bool.or_true]
    · rw [ih (by omega), Bool.true_or]
theorem seenW_step {n : Nat} {g : Nat → Int} {s : Int} {c W k : Nat} {j : Nat} (h0 : seenW n g s c W k j = false) (h : ¬ sq (g ((k + j * n / W) % n)) c ≤ s) : seenW n g s c W k (j + 1) = false := by
  rw [seenW, h0, decide_eq_false h]; rfl
/-- The cells of a beat are cells. -/
def CellsG (n : Nat) (g : Nat → Int) : Prop := ∀ i, i < n → 0 ≤ g i ∧ g i < 100
theorem CellsG.of {f : Fd} {n : Nat} {g : Nat → Int} (h : beatOk f n g = true) : CellsG n g := fun i hi => by
  obtain ⟨k, hk, e⟩ := walkQ_lt ((beatOk_iff h).2.2.1 i hi)
  omega
theorem CellsG.wf {n : Nat} {g : Nat → Int} (h : CellsG n g) : WfH n g := fun i hi => by have := h i hi; omega
theorem ahead_int (i n W : Nat) : ((i : Int) * (n : Int)) / (W : Int) = ((i * n / W : Nat) : Int) := by rw [Int.natCast_ediv, Int.natCast_mul]
theorem mul_in {i n : Nat} (hi : i ≤ 8) (hn : n ≤ 40) : 0 ≤ (i : Int) * (n : Int) ∧ (i : Int) * (n : Int) ≤ 320 := by
  have h : i * n ≤ 8 * 40 := Nat.mul_le_mul hi hn
  constructor
  · exact Int.mul_nonneg (by omega) (by omega)
  · have : ((i * n : Nat) : Int) ≤ 320 := by omega
    rw [Int.natCast_mul] at this; exact this
theorem ahead_le {i n W : Nat} (hi : i < W) (hn : n ≤ 40) (hW : W ≤ 8) : i * n / W ≤ 320 := by
  have h : i * n ≤ 8 * 40 := Nat.mul_le_mul (by omega) hn
  exact Nat.le_trans (Nat.div_le_self _ _) (by omega)
theorem at_sum (b n c : Nat) (hn1 : 1 ≤ n) (hn2 : n ≤ 40) (g : Nat → Int) (k q i : Nat) (hm : (k + q) % n = i) (hmb : k + q ≤ 1000) (hg : WfH n g) (w : World) (I : InH w b 0 n g) : Calls Tryd.prog 64 #[.slice (some ⟨b, 0, none⟩) n c, .int .i64 ((k : Int) + (q : Int))] w fun e w' => e = .returned (.int .i64 (g i)) ∧ w = w' :=
  at_any b n c hn1 hn2 g (k + q) i hm (by omega) hg w I
set_option maxHeartbeats 4000000 in
theorem isSeen_any (n : Nat) (hn1 : 1 ≤ n) (hn2 : n ≤ 40) (g : Nat → Int) (hg : CellsG n g) (s : Int) (hs : 0 ≤ s ∧ s ≤ 50) (cell : Nat) (hc : cell < 100) (W : Nat) (hW : 1 ≤ W ∧ W ≤ 8) (k : Nat) (hk : k < n) (b c : Nat) (w : World) (I : InH w b 0 n g) :
    Calls Tryd.prog 52 #[.slice (some ⟨b, 0, none⟩) n c, .int .i64 k, .int .i64 s, .int .i64 cell, .int .i64 W] w fun e w' => e = .returned (.bool (seenB n g s cell W k)) ∧ w = w' := by
  have HI := Lib.hid I
  have HG := Lib.hid hg
  clear I hg
  obtain ⟨hW1, hW2⟩ := hW
  obtain ⟨hs1, hs2⟩ := hs
  go_enter Tryd.func52, Tryd.ntmps52
  go_wp2_with fail
  go_loop [14] (fun i => ∃ j : Nat, j ≤ W ∧ i = .int .i64 j ∧ Hid (seenW n g s cell W k j = false)) (fun i => W - (intOf i).toNat)
  case atStart => exact ⟨0, by omega, rfl, Lib.hid rfl⟩
  case round =>
    obtain ⟨j, hj, rfl, hno⟩ := hrel
    by_cases hlt : j < W
    · obtain ⟨m1, m2⟩ := mul_in (i := j) (n := n) (by omega) hn2
      have hq0 := ahead_le hlt hn2 hW2
      have hq1 := ahead_int j n W
      obtain ⟨q, hq⟩ : ∃ q, j * n / W = q := ⟨_, rfl⟩
      rw [hq] at hq0 hq1
      have HQ := Lib.hid hq
      clear hq
      obtain ⟨x, hx⟩ : ∃ x, (k + q) % n = x := ⟨_, rfl⟩
      have hxn : x < n := by rw [← hx]; exact Nat.mod_lt _ (by omega)
      have HX := Lib.hid hx
      clear hx
      obtain ⟨u, hu⟩ : ∃ u : Nat, g x = (u : Int) := ⟨(g x).toNat, by have := (HG.out x hxn).1; omega⟩
      have hu1 : u < 100 := by have := (HG.out x hxn).2; omega
      have HU := Lib.hid hu
      clear hu
      obtain ⟨y, hy⟩ : ∃ y, sq (u : Int) (cell : Int) = y := ⟨_, rfl⟩
      have HY := Lib.hid hy
      clear hy
      have hval : Hid (sq (g ((k + j * n / W) % n)) cell = y) := Lib.hid (by rw [HQ.out, HX.out, HU.out]; exact HY.out)
      by_cases hle : y ≤ s
      · have hyes : Hid (seenB n g s cell W k = true) := Lib.hid (seenW_yes hlt (by rw [hval.out]; exact hle))
        go_wp2_with (first
          | (go_at_call 37; refine (length_any _ n c _).mono ?_; rintro e w' ⟨rfl, rfl⟩)
          | (go_at_call 64; refine (at_sum b n c hn1 hn2 g k q x HX.out (by omega) HG.out.wf _ HI.out).mono ?_; rintro e w' ⟨rfl, rfl⟩; rw [HU.out])
          | (go_at_call 68; refine (squareBetween_any u cell hu1 hc _).mono ?_; rintro e w' ⟨rfl, rfl⟩; rw [HY.out]))
        go_ret
        exact ⟨by rw [hyes.out]; rfl, rfl⟩
      · have hd : decide (y ≤ s) = false := decide_eq_false hle
        go_wp2_with (first
          | (go_at_call 37; refine (length_any _ n c _).mono ?_; rintro e w' ⟨rfl, rfl⟩)
          | (go_at_call 64; refine (at_sum b n c hn1 hn2 g k q x HX.out (by omega) HG.out.wf _ HI.out).mono ?_; rintro e w' ⟨rfl, rfl⟩; rw [HU.out])
          | (go_at_call 68; refine (squareBetween_any u cell hu1 hc _).mono ?_; rintro e w' ⟨rfl, rfl⟩; rw [HY.out]))
        clear hq1
        go_round
        case rel => exact ⟨j + 1, by omega, by go_num, Lib.hid (seenW_step hno.out (by rw [hval.out]; omega))⟩
        case measure => simp [intOf]; omega
    · obtain rfl : j = W := by omega
      go_wp2_with fail
      go_ret
      exact ⟨by rw [show seenB n g s cell j k = false from hno.out]; rfl, rfl⟩
/-- The minutes below k in which a cell is seen. -/
def minL (n : Nat) (g : Nat → Int) (s : Int) (c W : Nat) : Nat → List Int
  | 0 => []
  | k + 1 => if seenB n g s c W k then minL n g s c W k ++ [(k : Int)] else minL n g s c W k
theorem minL_yes {n : Nat} {g : Nat → Int} {s : Int} {c W k : Nat} (h : seenB n g s c W k = true) : minL n g s c W (k + 1) = minL n g s c W k ++ [(k : Int)] := by rw [minL, if_pos h]
theorem minL_no {n : Nat} {g : Nat → Int} {s : Int} {c W k : Nat} (h : seenB n g s c W k = false) : minL n g s c W (k + 1) = minL n g s c W k := by rw [minL, if_neg (by rw [h]; exact Bool.false_ne_true)]
theorem minL_le (n : Nat) (g : Nat → Int) (s : Int) (c W : Nat) : ∀ k, (minL n g s c W k).length ≤ k
  | 0 => Nat.le_refl _
  | k + 1 => by
    have := minL_le n g s c W k
    rw [minL]
    split
    · rw [List.length_append]; simp; omega
    · omega
set_option maxHeartbeats 4000000 in
theorem minutesOf_any (n : Nat) (hn1 : 1 ≤ n) (hn2 : n ≤ 40) (g : Nat → Int) (hg : CellsG n g) (s : Int) (hs : 0 ≤ s ∧ s ≤ 50) (cell : Nat) (hc : cell < 100) (W : Nat) (hW : 1 ≤ W ∧ W ≤ 8) (b c : Nat) (w : World) (I : InH w b 0 n g) :
    Calls Tryd.prog 36 #[.slice (some ⟨b, 0, none⟩) n c, .int .i64 s, .int .i64 cell, .int .i64 W] w fun e w' => ∃ v, e = .returned v ∧ w'.ownsRow w.heap.size 2 1 v (minL n g s cell W n).length ((minL n g s cell W n).map (Value.int .i64)) ∧ Below w.heap.size w w' := by
  have HI := Lib.hid I
  have HG := Lib.hid hg
  clear I hg
  obtain ⟨i0, hinf, hz0, hz1, hz2⟩ := info_parts Ninfo
  go_enter Tryd.func36, Tryd.ntmps36
  go_wp2_with (go_at_call 37; refine (length_any _ n c _).mono ?_; rintro e w' ⟨rfl, rfl⟩)
  go_loopw [9, 13] (fun v i wr => ∃ k : Nat, k ≤ n ∧ i = .int .i64 k ∧ Hid (wr.ownsRow w.heap.size 2 1 v (minL n g s cell W k).length ((minL n g s cell W k).map (Value.int .i64))) ∧ Hid (Below w.heap.size w wr)) (fun _ i _ => n - (intOf i).toNat)
  case atStart => exact ⟨0, by omega, rfl, Lib.hid (World.ownsRow_nil _ _ _ _), Lib.hid (Below.refl _ _)⟩
  case round =>
    obtain ⟨k, hk, rfl, hO, hB⟩ := hrel
    by_cases hlt : k < n
    · have hlen := minL_le n g s cell W k
      cases hq : seenB n g s cell W k with
      | false =>
        have e := Lib.hid (minL_no hq)
        go_wp2_with (go_at_call 52; refine (isSeen_any n hn1 hn2 g HG.out s hs cell hc W hW k hlt b c _ (HI.out.later hB.out)).mono ?_; rintro e w' ⟨rfl, rfl⟩; rw [hq])
        go_roundw
        case rel => exact ⟨k + 1, by omega, by go_num, by rw [e.out]; exact hO, hB⟩
        case measure => simp [intOf]; omega
      | true =>
        have e := Lib.hid (minL_yes hq)
        have hbs := hB.out.size
        have HO1 := Lib.hid (hO.out.alloc (.cells #[.int .i64 k] 2))
        obtain ⟨L, hL⟩ : ∃ L, minL n g s cell W k = L := ⟨_, rfl⟩
        rw [hL] at HO1 e hlen
        clear hO hL
        go_wp2_with (first
          | (go_at_call 52; refine (isSeen_any n hn1 hn2 g HG.out s hs cell hc W hW k hlt b c _ (HI.out.later hB.out)).mono ?_; rintro e w' ⟨rfl, rfl⟩; rw [hq])
          | (at_builtin; refine wpList_append_own _ rfl _ _ 68 rfl w.heap.size 2 i0 (.int .i64 0) 1 8 Tryd.underlying68 hinf hz0 hz1 hz2 rfl (by decide) _ _ _ rfl HO1.out ⟨wr.heap.size, 0, none⟩ 1 1 [.int .i64 k] rfl rfl ?c1 ?c2 ?c3 ?c4 ?c5 ?_))
        case c1 =>
          intro q u hqu
          have hq0 : q = 0 := by have := (List.getElem?_eq_some_iff.1 hqu).1; simp at this; exact this
          subst hq0
          simp at hqu
          subst hqu
          rw [Addr.add_lit]
          exact (Blk.new wr #[.int .i64 k] 2).cell rfl
        case c2 => intro u hu; simp at hu; subst hu; rfl
        case c3 => unfold maxLen; omega
        case c4 => omega
        case c5 => simp; omega
        intro v2 w2 ho2 hg2 _
        have C2 := Lib.hid (below_own (hB.out.alloc hB.out.size (.cells #[.int .i64 k] 2)) (by simp; omega) HO1.out hg2)
        have O2 : Hid (w2.ownsRow w.heap.size 2 1 v2 (minL n g s cell W (k + 1)).length ((minL n g s cell W (k + 1)).map (Value.int .i64))) := Lib.hid (by rw [e.out, List.length_append, List.map_append]; exact ho2)
        clear ho2 hg2
        go_wp2_with fail
        go_roundw
        case rel => exact ⟨k + 1, by omega, by go_num, O2, C2⟩
        case measure => simp [intOf]; omega
    · obtain rfl : k = n := by omega
      go_wp2_with fail
      go_ret
      exact ⟨_, rfl, hO.out, hB.out⟩
end Go.Proofs.YtfchbdbfokpcdaaDoor
