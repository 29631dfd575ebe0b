/-
  What is seen on a beat: the model's l05Seen.
-/
import Derived.Test.YtdjbaajcgipebaaDoorSeen
namespace Go.Proofs.YtdjbaajcgipebaaDoor
open Go Go.RowKit

/-- A row of yes and no. -/
def bcells (n : Nat) (f : Nat → Bool) : Array Value := ((List.range n).map (fun i => Value.bool (f i))).toArray
theorem bcells_size (n : Nat) (f : Nat → Bool) : (bcells n f).size = n := by simp [bcells]
theorem bcells_get (n : Nat) (f : Nat → Bool) (i : Nat) (h : i < n) : (bcells n f)[i]? = some (.bool (f i)) := by simp [bcells, h]
theorem bcells_ext {n : Nat} {f : Nat → Bool} {cs : Array Value} (hs : cs.size = n) (h : ∀ i, i < n → cs[i]? = some (.bool (f i))) : cs = bcells n f := by
  apply Array.ext_getElem?
  intro j
  by_cases hj : j < n
  · rw [h j hj, bcells_get n f j hj]
  · rw [Array.getElem?_eq_none (by omega), Array.getElem?_eq_none (by rw [bcells_size]; omega)]
theorem bcells_congr {n : Nat} {f g : Nat → Bool} (h : ∀ i, i < n → f i = g i) : bcells n f = bcells n g :=
  bcells_ext (bcells_size n f) (fun i hi => by rw [bcells_get n f i hi, h i hi])
theorem bcells_set (n : Nat) (f : Nat → Bool) (k : Nat) (v : Bool) (hk : k < n) : (bcells n f).setIfInBounds k (.bool v) = bcells n (fun i => if i = k then v else f i) := by
  refine bcells_ext (by simp [bcells_size]) (fun i hi => ?_)
  rw [Array.getElem?_setIfInBounds]
  by_cases e : k = i
  · subst e; rw [if_pos rfl, if_pos (by rw [bcells_size]; exact hk), if_pos rfl]
  · rw [if_neg e, bcells_get n f i hi]
    show _ = some (Value.bool (if i = k then v else f i))
    rw [if_neg (by omega)]
theorem wpList_makeB {P : Program} {ops : Array Oper} {rest : List Oper} {op : Oper} {a : Act} {w : World} {Q : Exit → Act → World → Prop} (hgd : op.guard = none) (t e : TypeId) (x : Operand) (ho : op.op = .makeSlice t x x) (n : Nat) (hx : a.eval x = .int .i64 n)
    (ht : P.underlying t = some (.slice e)) (hi : (P.info? e).map (fun i => (i.zero, i.size, i.bytes)) = some (some (.bool false), 1, 1)) (hn : n ≤ 2 ^ 40)
    (h : wpList P ops Q rest (a.put op.dst (.slice (some ⟨w.heap.size, 0, none⟩) n n)) (w.alloc (.cells (bcells n (fun _ => false)) e))) : wpList P ops Q (op :: rest) a w := by
  obtain ⟨i0, hie, hz, h1, h2⟩ := info_parts hi
  have hr := run_make (P := P) w t e i0 (.bool false) ht hie hz .i64 .i64 n n (by omega) (by omega) (by rw [h2]; omega) (by omega)
  rw [h1, Int.toNat_natCast] at hr
  have e0 : madeCells (Value.bool false).cells (n * 1) = bcells n (fun _ => false) := by
    refine bcells_ext (by rw [size_madeCells, Nat.mul_one]) (fun i hi => ?_)
    have : (madeCells (Value.bool false).cells (n * 1)).toList = List.replicate (n * 1) (Value.bool false) := toList_madeCells_one _ _
    rw [← Array.getElem?_toList, this, Nat.mul_one, List.getElem?_replicate, if_pos hi]
  rw [e0] at hr
  refine wpList_run hgd (v := .slice (some ⟨w.heap.size, 0, none⟩) n n) ?_ h
  unfold execOp
  simp only [ho, hx, Sem.run_bind, hr, Result.andThen_ok, Sem.run_pure]
def seenRow (n : Nat) (g : Nat → Int) (s : Int) (c W k j p : Nat) : Bool := if p < k then seenB n g s c W p else if p = k then seenW n g s c W k j else false
set_option maxHeartbeats 8000000 in
theorem l05Seen_any (n : Nat) (hn1 : 1 ≤ n) (hn2 : n ≤ 40) (g : Nat → Int) (hg : CellsG n g) (s : Int) (hs : 0 ≤ s ∧ s ≤ 50) (cell : Nat) (hc : cell < 100) (W : Nat) (hW : 1 ≤ W ∧ W ≤ 8) (b c : Nat) (w : World) (I : InH w b 0 n g) :
    Calls Tryd.prog 54 #[.slice (some ⟨b, 0, none⟩) n c, .int .i64 s, .int .i64 cell, .int .i64 W] w fun e w' => ∃ b', e = .returned (.slice (some ⟨b', 0, none⟩) n n) ∧ Blk w' b' (bcells n (seenB n g s cell W)) 4 ∧ Below w.heap.size w w' := by
  have HI := Lib.hid I
  have HG := Lib.hid hg
  clear I hg
  obtain ⟨hW1, hW2⟩ := hW
  obtain ⟨hs1, hs2⟩ := hs
  go_enter Tryd.func54, Tryd.ntmps54
  go_wp2_with (refine wpList_makeB rfl 80 4 _ rfl n rfl Tryd.underlying80 (by kernel_rfl) (by omega) ?_)
  obtain ⟨Wo, hWo, M⟩ := open1 w (bcells n (fun _ => false)) 4
  rw [hWo]; clear hWo
  have M0 := Lib.hid M
  clear M
  go_loopw [11, 12, 13] (fun k _ _ wr => ∃ q : Nat, q ≤ n ∧ k = .int .i64 q ∧ Hid (Mem w wr [⟨w.heap.size, bcells n (seenRow n g s cell W q 0), 4⟩])) (fun k _ _ _ => n - (intOf k).toNat)
  case atStart => exact ⟨0, by omega, rfl, Lib.hid (by
    have e : bcells n (seenRow n g s cell W 0 0) = bcells n (fun _ => false) := bcells_congr (fun i _ => by unfold seenRow; rw [if_neg (by omega)]; split <;> rfl)
    rw [e]; exact M0.out)⟩
  case round =>
    clear M0
    obtain ⟨k, hk, rfl, hM⟩ := hrel
    by_cases hlt : k < n
    · go_wp2_with fail
      obtain ⟨wo, hwo⟩ : ∃ wo : World, wo = wr := ⟨_, rfl⟩
      subst hwo
      go_loopw [12, 13] (fun i _ wr => ∃ j : Nat, j ≤ W ∧ i = .int .i64 j ∧ Hid (Mem w wr [⟨w.heap.size, bcells n (seenRow n g s cell W k j), 4⟩])) (fun i _ _ => W - (intOf i).toNat)
      case atStart => exact ⟨0, by omega, rfl, hM⟩
      case round =>
        clear hM
        obtain ⟨j, hj, rfl, hM⟩ := hrel
        by_cases hltj : j < W
        · obtain ⟨m1, m2⟩ := mul_in (i := j) (n := n) (by omega) hn2
          have hq0 := ahead_le hltj hn2 hW2
          have hq1 := ahead_int j n W
          obtain ⟨q, hq⟩ : ∃ q, j * n / W = q := ⟨_, rfl⟩
          rw [hq] at hq0 hq1
          have HQ := Lib.hid hq
          clear hq
          obtain ⟨x, hx⟩ : ∃ x, (k + q) % n = x := ⟨_, rfl⟩
          have hxn : x < n := by rw [← hx]; exact Nat.mod_lt _ (by omega)
          have HX := Lib.hid hx
          have hmod : ((k : Int) + (q : Int)) % (n : Int) = (x : Int) := by rw [← hx, Int.natCast_emod, Int.natCast_add]
          clear hx
          obtain ⟨u, hu⟩ : ∃ u : Nat, g x = (u : Int) := ⟨(g x).toNat, by have := (HG.out x hxn).1; omega⟩
          have hu1 : u < 100 := by have := (HG.out x hxn).2; omega
          have HU := Lib.hid hu
          have d0 := (HI.out.later hM.out.below) x hxn
          rw [Nat.zero_add, hu] at d0
          clear hu
          obtain ⟨y, hy⟩ : ∃ y, sq (u : Int) (cell : Int) = y := ⟨_, rfl⟩
          have HY := Lib.hid hy
          clear hy
          have hval : Hid (sq (g ((k + j * n / W) % n)) cell = y) := Lib.hid (by rw [HQ.out, HX.out, HU.out]; exact HY.out)
          by_cases hle : y ≤ s
          · have c1 := (hM.out.at 0 rfl).cell (bcells_get n (seenRow n g s cell W k j) k hlt)
            have e1 := (hM.out.at 0 rfl).free k
            have M2 := Lib.hid (hM.out.set 0 k (.bool true) rfl _ (bcells_set n (seenRow n g s cell W k j) k true hlt))
            have e2 : Hid (bcells n (fun i => if i = k then true else seenRow n g s cell W k j i) = bcells n (seenRow n g s cell W k (j + 1))) := Lib.hid (bcells_congr (fun i _ => by
              unfold seenRow
              by_cases h1 : i = k
              · subst h1; rw [if_pos rfl, if_neg (by omega), if_pos rfl, seenW_yes (Nat.lt_succ_self j) (by rw [hval.out]; exact hle)]
              · rw [if_neg h1]
                by_cases h2 : i < k
                · rw [if_pos h2, if_pos h2]
                · rw [if_neg h2, if_neg h2, if_neg h1, if_neg h1]))
            go_wp2_with (go_at_call 63; refine (l01Square_any u cell hu1 hc _).mono ?_; rintro e w' ⟨rfl, rfl⟩; rw [HY.out])
            clear hq1 hmod
            go_roundw
            case rel => exact ⟨j + 1, by omega, by go_num, Lib.hid (by rw [← e2.out]; exact M2.out)⟩
            case measure => simp [intOf]; omega
          · have hd : decide (y ≤ s) = false := decide_eq_false hle
            have e2 : Hid (bcells n (seenRow n g s cell W k j) = bcells n (seenRow n g s cell W k (j + 1))) := Lib.hid (bcells_congr (fun i _ => by
              unfold seenRow
              by_cases h2 : i < k
              · rw [if_pos h2, if_pos h2]
              · rw [if_neg h2, if_neg h2]
                by_cases h1 : i = k
                · rw [if_pos h1, if_pos h1, seenW, hval.out, hd, Bool.or_false]
                · rw [if_neg h1, if_neg h1]))
            go_wp2_with (go_at_call 63; refine (l01Square_any u cell hu1 hc _).mono ?_; rintro e w' ⟨rfl, rfl⟩; rw [HY.out])
            clear hq1 hmod
            go_roundw
            case rel => exact ⟨j + 1, by omega, by go_num, Lib.hid (by rw [← e2.out]; exact hM.out)⟩
            case measure => simp [intOf]; omega
        · obtain rfl : j = W := by omega
          have e2 : Hid (bcells n (seenRow n g s cell j k j) = bcells n (seenRow n g s cell j (k + 1) 0)) := Lib.hid (bcells_congr (fun i _ => by
            unfold seenRow
            by_cases h2 : i < k
            · rw [if_pos h2, if_pos (by omega)]
            · rw [if_neg h2]
              by_cases h1 : i = k
              · subst h1; rw [if_pos rfl, if_pos (by omega)]; rfl
              · rw [if_neg h1, if_neg (by omega)]; split <;> rfl))
          go_wp2_with fail
          go_roundw
          case rel => exact ⟨k + 1, by omega, by go_num, Lib.hid (by rw [← e2.out]; exact hM.out)⟩
          case measure => simp [intOf]; omega
    · obtain rfl : k = n := by omega
      have e2 : Hid (bcells k (seenRow k g s cell W k 0) = bcells k (seenB k g s cell W)) := Lib.hid (bcells_congr (fun i hi => by unfold seenRow; rw [if_pos hi]))
      go_wp2_with fail
      go_ret
      exact ⟨_, rfl, by rw [← e2.out]; exact hM.out.at 0 rfl, hM.out.below⟩
end Go.Proofs.YtdjbaajcgipebaaDoor
