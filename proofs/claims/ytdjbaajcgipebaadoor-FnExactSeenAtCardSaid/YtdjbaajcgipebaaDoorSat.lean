/-
  SeenAt: the model's, the program's.
-/
import Derived.Test.YtdjbaajcgipebaaDoorSbyC
import Derived.Test.YtdjbaajcgipebaaDoorJoinI
namespace Go.Proofs.YtdjbaajcgipebaaDoor
open Go Go.RowKit

theorem at_off (b o n c : Nat) (hn1 : 1 ≤ n) (hn2 : n ≤ 40) (g : Nat → Int) (m i : Nat) (hm : m % n = i) (hmb : m ≤ 1000) (hg : WfH n g) (w : World) (I : InH w b o n g) : Calls Tryd.prog 85 #[.slice (some ⟨b, o, none⟩) n c, .int .i64 m] w fun e w' => e = .returned (.int .i64 (g i)) ∧ w = w' := by
  have hi : i < n := by rw [← hm]; exact Nat.mod_lt _ (by omega)
  have d0 := I i hi
  obtain ⟨g1, g2⟩ := hg i hi
  have HM := Lib.hid (nat_tmod hm)
  clear I hm hg
  go_enter Tryd.func85, Tryd.ntmps85
  go_upto_region 1 with (fail)
  have hmod := HM.out
  go_wp2_with (go_at_call 44; refine (length_any _ n c _).mono ?_; rintro e w' ⟨rfl, rfl⟩)
  go_ret
  exact ⟨rfl, rfl⟩
theorem at_sumO (b o n c : Nat) (hn1 : 1 ≤ n) (hn2 : n ≤ 40) (g : Nat → Int) (k q i : Nat) (hm : (k + q) % n = i) (hmb : k + q ≤ 1000) (hg : WfH n g) (w : World) (I : InH w b o n g) : Calls Tryd.prog 85 #[.slice (some ⟨b, o, none⟩) n c, .int .i64 ((k : Int) + (q : Int))] w fun e w' => e = .returned (.int .i64 (g i)) ∧ w = w' :=
  at_off b o n c hn1 hn2 g (k + q) i hm (by omega) hg w I
set_option maxHeartbeats 4000000 in
theorem isSeen_off (n : Nat) (hn1 : 1 ≤ n) (hn2 : n ≤ 40) (g : Nat → Int) (hg : CellsG n g) (s : Int) (hs : 0 ≤ s ∧ s ≤ 50) (cell : Nat) (hc : cell < 100) (W : Nat) (hW : 1 ≤ W ∧ W ≤ 8) (k : Nat) (hk : k < n) (b o c : Nat) (w : World) (I : InH w b o n g) :
    Calls Tryd.prog 77 #[.slice (some ⟨b, o, none⟩) n c, .int .i64 k, .int .i64 s, .int .i64 cell, .int .i64 W] w fun e w' => e = .returned (.bool (seenB n g s cell W k)) ∧ w = w' := by
  have HI := Lib.hid I
  have HG := Lib.hid hg
  clear I hg
  obtain ⟨hW1, hW2⟩ := hW
  obtain ⟨hs1, hs2⟩ := hs
  go_enter Tryd.func77, Tryd.ntmps77
  go_wp2_with fail
  go_loop [14] (fun i => ∃ j : Nat, j ≤ W ∧ i = .int .i64 j ∧ Hid (seenW n g s cell W k j = false)) (fun i => W - (intOf i).toNat)
  case atStart => exact ⟨0, by omega, rfl, Lib.hid rfl⟩
  case round =>
    obtain ⟨j, hj, rfl, hno⟩ := hrel
    by_cases hlt : j < W
    · obtain ⟨m1, m2⟩ := mul_in (i := j) (n := n) (by omega) hn2
      have hq0 := ahead_le hlt hn2 hW2
      have hq1 := ahead_int j n W
      obtain ⟨q, hq⟩ : ∃ q, j * n / W = q := ⟨_, rfl⟩
      rw [hq] at hq0 hq1
      have HQ := Lib.hid hq
      clear hq
      obtain ⟨x, hx⟩ : ∃ x, (k + q) % n = x := ⟨_, rfl⟩
      have hxn : x < n := by rw [← hx]; exact Nat.mod_lt _ (by omega)
      have HX := Lib.hid hx
      clear hx
      obtain ⟨u, hu⟩ : ∃ u : Nat, g x = (u : Int) := ⟨(g x).toNat, by have := (HG.out x hxn).1; omega⟩
      have hu1 : u < 100 := by have := (HG.out x hxn).2; omega
      have HU := Lib.hid hu
      clear hu
      obtain ⟨y, hy⟩ : ∃ y, sq (u : Int) (cell : Int) = y := ⟨_, rfl⟩
      have HY := Lib.hid hy
      clear hy
      have hval : Hid (sq (g ((k + j * n / W) % n)) cell = y) := Lib.hid (by rw [HQ.out, HX.out, HU.out]; exact HY.out)
      by_cases hle : y ≤ s
      · have hyes : Hid (seenB n g s cell W k = true) := Lib.hid (seenW_yes hlt (by rw [hval.out]; exact hle))
        go_wp2_with (first
          | (go_at_call 44; refine (length_any _ n c _).mono ?_; rintro e w' ⟨rfl, rfl⟩)
          | (go_at_call 85; refine (at_sumO b o n c hn1 hn2 g k q x HX.out (by omega) HG.out.wf _ HI.out).mono ?_; rintro e w' ⟨rfl, rfl⟩; rw [HU.out])
          | (go_at_call 92; refine (squareBetween_any u cell hu1 hc _).mono ?_; rintro e w' ⟨rfl, rfl⟩; rw [HY.out]))
        go_ret
        exact ⟨by rw [hyes.out]; rfl, rfl⟩
      · have hd : decide (y ≤ s) = false := decide_eq_false hle
        go_wp2_with (first
          | (go_at_call 44; refine (length_any _ n c _).mono ?_; rintro e w' ⟨rfl, rfl⟩)
          | (go_at_call 85; refine (at_sumO b o n c hn1 hn2 g k q x HX.out (by omega) HG.out.wf _ HI.out).mono ?_; rintro e w' ⟨rfl, rfl⟩; rw [HU.out])
          | (go_at_call 92; refine (squareBetween_any u cell hu1 hc _).mono ?_; rintro e w' ⟨rfl, rfl⟩; rw [HY.out]))
        clear hq1
        go_round
        case rel => exact ⟨j + 1, by omega, by go_num, Lib.hid (seenW_step hno.out (by rw [hval.out]; omega))⟩
        case measure => simp [intOf]; omega
    · obtain rfl : j = W := by omega
      go_wp2_with fail
      go_ret
      exact ⟨by rw [show seenB n g s cell j k = false from hno.out]; rfl, rfl⟩
set_option maxHeartbeats 4000000 in
theorem minutesOf_off (n : Nat) (hn1 : 1 ≤ n) (hn2 : n ≤ 40) (g : Nat → Int) (hg : CellsG n g) (s : Int) (hs : 0 ≤ s ∧ s ≤ 50) (cell : Nat) (hc : cell < 100) (W : Nat) (hW : 1 ≤ W ∧ W ≤ 8) (b o c : Nat) (w : World) (I : InH w b o n g) :
    Calls Tryd.prog 55 #[.slice (some ⟨b, o, none⟩) n c, .int .i64 s, .int .i64 cell, .int .i64 W] w fun e w' => ∃ v, e = .returned v ∧ w'.ownsRow w.heap.size 2 1 v (minL n g s cell W n).length ((minL n g s cell W n).map (Value.int .i64)) ∧ Below w.heap.size w w' := by
  have HI := Lib.hid I
  have HG := Lib.hid hg
  clear I hg
  obtain ⟨i0, hinf, hz0, hz1, hz2⟩ := info_parts Ninfo
  go_enter Tryd.func55, Tryd.ntmps55
  go_wp2_with (go_at_call 44; refine (length_any _ n c _).mono ?_; rintro e w' ⟨rfl, rfl⟩)
  go_loopw [9, 13] (fun v i wr => ∃ k : Nat, k ≤ n ∧ i = .int .i64 k ∧ Hid (wr.ownsRow w.heap.size 2 1 v (minL n g s cell W k).length ((minL n g s cell W k).map (Value.int .i64))) ∧ Hid (Below w.heap.size w wr)) (fun _ i _ => n - (intOf i).toNat)
  case atStart => exact ⟨0, by omega, rfl, Lib.hid (World.ownsRow_nil _ _ _ _), Lib.hid (Below.refl _ _)⟩
  case round =>
    obtain ⟨k, hk, rfl, hO, hB⟩ := hrel
    by_cases hlt : k < n
    · have hlen := minL_le n g s cell W k
      cases hq : seenB n g s cell W k with
      | false =>
        have e := Lib.hid (minL_no hq)
        go_wp2_with (go_at_call 77; refine (isSeen_off n hn1 hn2 g HG.out s hs cell hc W hW k hlt b o c _ (HI.out.later hB.out)).mono ?_; rintro e w' ⟨rfl, rfl⟩; rw [hq])
        go_roundw
        case rel => exact ⟨k + 1, by omega, by go_num, by rw [e.out]; exact hO, hB⟩
        case measure => simp [intOf]; omega
      | true =>
        have e := Lib.hid (minL_yes hq)
        have hbs := hB.out.size
        have HO1 := Lib.hid (hO.out.alloc (.cells #[.int .i64 k] 2))
        obtain ⟨L, hL⟩ : ∃ L, minL n g s cell W k = L := ⟨_, rfl⟩
        rw [hL] at HO1 e hlen
        clear hO hL
        go_wp2_with (first
          | (go_at_call 77; refine (isSeen_off n hn1 hn2 g HG.out s hs cell hc W hW k hlt b o c _ (HI.out.later hB.out)).mono ?_; rintro e w' ⟨rfl, rfl⟩; rw [hq])
          | (at_builtin; refine wpList_append_own _ rfl _ _ 49 rfl w.heap.size 2 i0 (.int .i64 0) 1 8 Tryd.underlying49 hinf hz0 hz1 hz2 rfl (by decide) _ _ _ rfl HO1.out ⟨wr.heap.size, 0, none⟩ 1 1 [.int .i64 k] rfl rfl ?c1 ?c2 ?c3 ?c4 ?c5 ?_))
        case c1 =>
          intro q u hqu
          have hq0 : q = 0 := by have := (List.getElem?_eq_some_iff.1 hqu).1; simp at this; exact this
          subst hq0
          simp at hqu
          subst hqu
          rw [Addr.add_lit]
          exact (Blk.new wr #[.int .i64 k] 2).cell rfl
        case c2 => intro u hu; simp at hu; subst hu; rfl
        case c3 => unfold maxLen; omega
        case c4 => omega
        case c5 => simp; omega
        intro v2 w2 ho2 hg2 _
        have C2 := Lib.hid (below_own (hB.out.alloc hB.out.size (.cells #[.int .i64 k] 2)) (by simp; omega) HO1.out hg2)
        have O2 : Hid (w2.ownsRow w.heap.size 2 1 v2 (minL n g s cell W (k + 1)).length ((minL n g s cell W (k + 1)).map (Value.int .i64))) := Lib.hid (by rw [e.out, List.length_append, List.map_append]; exact ho2)
        clear ho2 hg2
        go_wp2_with fail
        go_roundw
        case rel => exact ⟨k + 1, by omega, by go_num, O2, C2⟩
        case measure => simp [intOf]; omega
    · obtain rfl : k = n := by omega
      go_wp2_with fail
      go_ret
      exact ⟨_, rfl, hO.out, hB.out⟩
set_option maxRecDepth 100000 in
theorem seenBy_closureO (n : Nat) (hn1 : 1 ≤ n) (hn2 : n ≤ 40) (g : Nat → Int) (hg : CellsG n g) (s : Int) (hs : 0 ≤ s ∧ s ≤ 50) (k : Nat) (hk : k < 100) (b o c pb ps : Nat) (w : World) (I : InH w b o n g) (h1 : w.cell? ⟨pb, 0, none⟩ = some (.slice (some ⟨b, o, none⟩) n c)) (h2 : w.cell? ⟨ps, 0, none⟩ = some (.int .i64 s)) :
    Calls Tryd.prog 76 #[.int .i64 k, .pointer (some ⟨pb, 0, none⟩), .pointer (some ⟨ps, 0, none⟩)] w fun e w' => e = .returned (.bool (sawQ n g s k)) ∧ Below w.heap.size w w' := by
  have HI := Lib.hid I
  have HG := Lib.hid hg
  clear I hg
  unfold sawQ
  obtain ⟨L, hL⟩ : ∃ L, (minL n g s k 1 n).length = L := ⟨_, rfl⟩
  have HL := Lib.hid hL
  have hL2 := minL_le n g s k 1 n
  rw [hL] at hL2 ⊢
  clear hL
  go_enter Tryd.func76, Tryd.ntmps76
  go_wp2_with (go_at_call 55; refine (minutesOf_off n hn1 hn2 g HG.out s hs k hk 1 (by omega) b o c _ HI.out).mono ?_; rintro e W1 ⟨v, rfl, ho, hb⟩; obtain ⟨p, c1, rfl, _, _⟩ := Nown rfl ho; rw [HL.out]; clear ho)
  go_ret
  exact ⟨rfl, hb⟩
set_option maxRecDepth 100000 in
set_option maxHeartbeats 4000000 in
theorem seenBy_off (f : Fd) (hf : f.Wf) (hok : okF f = true) (n : Nat) (hn1 : 1 ≤ n) (hn2 : n ≤ 40) (g : Nat → Int) (hg : CellsG n g) (s : Int) (hs : 0 ≤ s ∧ s ≤ 50) (b o c : Nat) (w : World) (I : InH w b o n g) :
    Calls Tryd.prog 52 #[.slice (some ⟨b, o, none⟩) n c, .agg (fcells f), .int .i64 s] w fun e w' => e = .returned (.agg (acells .u64 2 (wantSet f (sawQ n g s) 100))) ∧ Below w.heap.size w w' := by
  have HI := Lib.hid I
  have HG := Lib.hid hg
  clear I hg
  go_enter Tryd.func52, Tryd.ntmps52
  go_upto_region 1 with (fail)
  rw [zero2]
  obtain ⟨W0, hW0, M0⟩ := open3 w (#[.slice (some ⟨b, o, none⟩) n c]) 32 (fcells f) 30 (#[.int .i64 s]) 2
  have M : Mem w (W0.alloc (.cells (acells .u64 2 (fun _ => 0)) 45)) [⟨w.heap.size, #[.slice (some ⟨b, o, none⟩) n c], 32⟩, ⟨w.heap.size + 1, fcells f, 30⟩, ⟨w.heap.size + 1 + 1, #[.int .i64 s], 2⟩, ⟨w.heap.size + 1 + 1 + 1, acells .u64 2 (fun _ => 0), 45⟩] := by
    have h := M0.alloc (acells .u64 2 (fun _ => 0)) 45
    have hs : W0.heap.size = w.heap.size + 1 + 1 + 1 := by rw [← hW0]; simp
    rw [hs] at h
    exact h
  rw [hW0]; clear hW0 M0
  generalize W0.alloc _ = W at M ⊢
  have HE : Hid ((fun w' => w'.cell? ⟨w.heap.size, 0, none⟩ = some (.slice (some ⟨b, o, none⟩) n c) ∧ w'.cell? ⟨w.heap.size + 1 + 1, 0, none⟩ = some (.int .i64 s) ∧ InH w' b o n g) W) := Lib.hid ⟨(M.at 0 rfl).cell (i := 0) rfl, (M.at 2 rfl).cell (i := 0) rfl, HI.out.later M.below⟩
  go_wp2_with (first
    | (refine wpList_load_part rfl 30 _ rfl (w.heap.size + 1) 0 rfl (fcells f) _ (M.at 1 rfl).whole Tryd.underlying30 rfl (by rw [fcells_size]; exact sizeFd) ?_)
    | (go_at_call 75; refine (cellsWhere_any f hok 76 #[.pointer (some ⟨w.heap.size, 0, none⟩), .pointer (some ⟨w.heap.size + 1 + 1, 0, none⟩)] (sawQ n g s) (fun w' => w'.cell? ⟨w.heap.size, 0, none⟩ = some (.slice (some ⟨b, o, none⟩) n c) ∧ w'.cell? ⟨w.heap.size + 1 + 1, 0, none⟩ = some (.int .i64 s) ∧ InH w' b o n g) (fun _ _ h hb => ⟨cell_later h.1 hb, cell_later h.2.1 hb, h.2.2.later hb⟩) (fun k w' hk h => seenBy_closureO n hn1 hn2 g HG.out s hs k (isCell_lt hk) b o c _ _ w' h.2.2 h.1 h.2.1) _ HE.out (enters_of Tryd.func76 (by kernel_rfl) rfl)).mono ?_; rintro e W5 ⟨rfl, hb5⟩; have M5 := M.call hb5; clear hb5)
    | (refine wpList_store_row rfl 45 _ _ rfl (w.heap.size + 1 + 1 + 1) (acells .u64 2 (wantSet f (sawQ n g s) 100)) rfl rfl 45 _ (M5.at 3 rfl) (by rw [acells_size]; exact sizeC) (by simp only [acells_size]) (acells_one _ _ _) ?_))
  have M6 := M5.row 3 rfl (acells .u64 2 (wantSet f (sawQ n g s) 100))
  exact bodyPost_ret (results_cell_row rfl _ _ (w.heap.size + 1 + 1 + 1) 45 _ _ _ rfl (M6.at 3 rfl) Tryd.underlying45 rfl (by rw [acells_size]; exact sizeC)) rfl ⟨rfl, M6.below⟩
def satCode (f : Fd) (n : Nat) (g : Nat → Int) (s x : Int) : Int := beatAsk f n g s (inB x 0 ((n : Int) - 1))
def satSet (f : Fd) (n : Nat) (g : Nat → Int) (s x : Int) : Nat → Int := if satCode f n g s x = 0 then wantSet f (ringQ (g x.toNat).toNat s) 100 else fun _ => 0
theorem sawQ_one {n k : Nat} {g : Nat → Int} {s : Int} (hk : k < n) (hg : CellsG n g) : sawQ 1 (fun i => g (k + i)) s = ringQ (g k).toNat s := by
  funext j
  have e : ((g k).toNat : Int) = g k := by have := hg k hk; omega
  unfold ringQ
  rw [e, Bool.eq_iff_iff, sawQ_iff, decide_eq_true_eq]
  constructor
  · rintro ⟨t, ht, h⟩
    obtain rfl : t = 0 := by omega
    exact h
  · intro h; exact ⟨0, by omega, h⟩
theorem cutM (b n k : Nat) (hk : k < n) (hn : n ≤ 1000) (w : World) : Calls Tryd.prog 56 #[.slice (some ⟨b, 0, none⟩) n n, .int .i64 k, .int .i64 ((k : Int) + 1)] w fun e w' => e = .returned (.slice (some ⟨b, k, none⟩) 1 1) ∧ w = w' := by
  have h := cut_any b 0 n n k (k + 1) (by omega) (by omega) (by unfold maxLen; omega) w
  rw [show k + 1 - k = 1 by omega, Nat.zero_add] at h
  exact h
set_option maxRecDepth 100000 in
set_option maxHeartbeats 4000000 in
theorem specSeenAt (f : Fd) (hf : f.Wf) (n : Nat) (hn : n ≤ 2 ^ 40) (g : Nat → Int) (hg : WfH n g) (s x : Int) (hx : -9223372036854775808 ≤ x ∧ x ≤ 9223372036854775807) (b c : Nat) (w : World) (I : InH w b 0 n g) :
    Calls Tryd.prog 32 #[.agg (fcells f), .slice (some ⟨b, 0, none⟩) n c, .int .i64 s, .int .i64 x] w fun e w' => e = .returned (.tuple #[.agg (acells .u64 2 (satSet f n g s x)), .int .i64 (satCode f n g s x)]) ∧ Below w.heap.size w w' := by
  have HI := Lib.hid I
  clear I
  obtain ⟨hx1, hx2⟩ := hx
  unfold satSet
  obtain ⟨c0, hc0⟩ : ∃ y, satCode f n g s x = y := ⟨_, rfl⟩
  have HC := Lib.hid hc0
  unfold satCode at HC hc0
  obtain ⟨fine, hfine⟩ : ∃ y, inB x 0 ((n : Int) - 1) = y := ⟨_, rfl⟩
  rw [hfine] at HC hc0
  have HF := Lib.hid hfine
  rw [show satCode f n g s x = c0 by unfold satCode; rw [hfine]; exact hc0]
  by_cases hz : c0 = 0
  · subst hz
    obtain ⟨h1, ⟨h2, h3⟩, h4⟩ := beatAsk_0 hc0
    obtain ⟨_, n1, n2⟩ := okB_iff h1
    have hG := CellsG.of (okB_ok h1)
    subst h4
    obtain ⟨x1', x2'⟩ := inB_iff.1 hfine
    obtain ⟨k, rfl⟩ : ∃ k : Nat, x = (k : Int) := ⟨x.toNat, by omega⟩
    have hlt : k < n := by omega
    have hgk := hG k hlt
    obtain ⟨q, hq⟩ : ∃ q : Nat, g k = (q : Int) := ⟨(g k).toNat, by omega⟩
    have hq100 : q < 100 := by omega
    rw [if_pos rfl, Int.toNat_natCast, hq, Int.toNat_natCast]
    have HQ := Lib.hid hq
    clear h1 hc0 hG hgk hfine hq hx1 hx2
    go_enter Tryd.func32, Tryd.ntmps32
    go_upto_region 1 with (fail)
    rw [zero2]
    obtain ⟨W, hW, M⟩ := open2 w (fcells f) 30 (acells .u64 2 (fun _ => 0)) 45
    rw [hW]; clear hW
    have ck := (HI.out.later M.below) k hlt
    rw [Nat.zero_add, HQ.out] at ck
    go_wp2_with (first
      | (go_at_call 42; refine (l00In_any _ _ _ _).mono ?_; rintro e w' ⟨rfl, rfl⟩; rw [HF.out])
      | (go_at_call 41; refine (l05Asked_any f hf n hn g hg s _ _ b c _ (M.at 0 rfl) (HI.out.later M.below)).mono ?_; rintro e w' ⟨rfl, rfl⟩; rw [HC.out])
      | (go_at_call 50; refine (l01Ring_any f hf q hq100 s (by omega) (by omega) _ _ (M.at 0 rfl)).mono ?_; rintro e W2 ⟨rfl, hb⟩; have M2 := M.call hb)
      | (refine wpList_store_row rfl 45 _ _ rfl (w.heap.size + 1) (acells .u64 2 (wantSet f (ringQ q s) 100)) rfl rfl 45 _ (M2.at 1 rfl) (by rw [acells_size]; exact sizeC) (by simp only [acells_size]) (acells_one _ _ _) ?_))
    have M3 := M2.row 1 rfl (acells .u64 2 (wantSet f (ringQ q s) 100))
    exact bodyPost_ret (results_row_tmp rfl _ _ (w.heap.size + 1) 45 _ _ _ rfl (M3.at 1 rfl) Tryd.underlying45 rfl (by rw [acells_size]; exact sizeC)) rfl ⟨rfl, M3.below⟩
  · have hne : (c0 != 0) = true := by simpa using hz
    rw [if_neg hz]
    clear hc0 hz hfine
    go_enter Tryd.func32, Tryd.ntmps32
    go_upto_region 1 with (fail)
    rw [zero2]
    obtain ⟨W, hW, M⟩ := open2 w (fcells f) 30 (acells .u64 2 (fun _ => 0)) 45
    rw [hW]; clear hW
    go_wp2_with (first
      | (go_at_call 42; refine (l00In_any _ _ _ _).mono ?_; rintro e w' ⟨rfl, rfl⟩; rw [HF.out])
      | (go_at_call 41; refine (l05Asked_any f hf n hn g hg s _ _ b c _ (M.at 0 rfl) (HI.out.later M.below)).mono ?_; rintro e w' ⟨rfl, rfl⟩; rw [HC.out])
      | (refine wpList_store_row rfl 45 _ _ rfl (w.heap.size + 1) (acells .u64 2 (fun _ => 0)) rfl rfl 45 _ (M.at 1 rfl) (by rw [acells_size]; exact sizeC) (by simp only [acells_size]) (acells_one _ _ _) ?_))
    have M2 := M.row 1 rfl (acells .u64 2 (fun _ => 0))
    exact bodyPost_ret (results_row_tmp rfl _ _ (w.heap.size + 1) 45 _ _ _ rfl (M2.at 1 rfl) Tryd.underlying45 rfl (by rw [acells_size]; exact sizeC)) rfl ⟨rfl, M2.below⟩
set_option maxRecDepth 100000 in
set_option maxHeartbeats 4000000 in
theorem implSeenAt (f : Fd) (hf : f.Wf) (n : Nat) (hn : n ≤ 2 ^ 40) (g : Nat → Int) (hg : WfH n g) (s x : Int) (hx : -9223372036854775808 ≤ x ∧ x ≤ 9223372036854775807) (b : Nat) (A : Nat → Addr) (w : World) (I : InH w b 0 n g) (S0 : Sents w A) :
    Calls Tryd.prog 33 #[.agg (fcells f), .slice (some ⟨b, 0, none⟩) n n, .int .i64 s, .int .i64 x] w fun e w' => e = .returned (.tuple #[.agg (acells .u64 2 (satSet f n g s x)), .int .i64 (satCode f n g s x)]) ∧ Below w.heap.size w w' := by
  have S : Hid (Sents w A) := Lib.hid S0
  have HI := Lib.hid I
  clear S0 I
  have hif := isIfaceErr
  obtain ⟨hx1, hx2⟩ := hx
  obtain ⟨c1, hc1⟩ : ∃ y, beatAsk f n g s true = y := ⟨_, rfl⟩
  have hcs := beatAsk_cases f n g s true
  have HC : Hid (beatAsk f n g s (allTo 0 (fun i => isCell f ((fun _ => 0) i))) = c1) := Lib.hid hc1
  rw [hc1] at hcs
  by_cases hz : c1 = 0
  · subst hz
    obtain ⟨h1, hs, _⟩ := beatAsk_0 hc1
    obtain ⟨hok, n1, n2⟩ := okB_iff h1
    have hG := Lib.hid (CellsG.of (okB_ok h1))
    have hsb : inB s 0 50 = true := inB_iff.2 hs
    clear hc1 hcs
    have hnil : codeErr A 0 = .nilIface := rfl
    by_cases hlo : 0 ≤ x
    · by_cases hhi : x < n
      · have HT : satCode f n g s x = 0 := beatAsk_ok h1 (by rw [inB_iff.2 (show 0 ≤ x ∧ x ≤ (n : Int) - 1 by omega), hsb]; rfl)
        obtain ⟨k, rfl⟩ : ∃ k : Nat, x = (k : Int) := ⟨x.toNat, by omega⟩
        have hk : k < n := by omega
        unfold satSet
        rw [HT, if_pos rfl, Int.toNat_natCast, ← sawQ_one hk hG.out]
        have t1 : decide ((k : Int) < 0) = false := decide_eq_false (by omega)
        have t2 : decide ((n : Int) ≤ (k : Int)) = false := decide_eq_false (by omega)
        have HG1 : Hid (CellsG 1 (fun i => g (k + i))) := Lib.hid (fun i hi => by
          obtain rfl : i = 0 := by omega
          exact hG.out k hk)
        have HI1 : Hid (∀ w', Below w.heap.size w w' → InH w' b k 1 (fun i => g (k + i))) := Lib.hid (fun w' hb i hi => by
          obtain rfl : i = 0 := by omega
          have h := (HI.out.later hb) k hk
          rw [Nat.zero_add] at h
          exact h)
        clear h1 hlo hhi HT
        go_enter Tryd.func33, Tryd.ntmps33
        go_upto_region 1 with (fail)
        rw [zero2]
        obtain ⟨W, hW, M⟩ := open2 w (fcells f) 30 (acells .u64 2 (fun _ => 0)) 45
        rw [hW]; clear hW
        have ok0 : True := trivial
        have ok1 : True := trivial
        have ok2 : True := trivial
        have ok3 : True := trivial
        go_upto_region 6 with (first
          | (clear ok0; refine wpList_load_part rfl 30 _ rfl (w.heap.size) 0 rfl (fcells f) _ (M.at 0 rfl).whole Tryd.underlying30 rfl (by rw [fcells_size]; exact sizeFd) ?_)
          | (clear ok1; go_at_call 51; refine (checkWatching_any f hf n hn g hg s 0 (by omega) (fun _ => 0) (fun i hi => absurd hi (by omega)) b n none 0 A _ (HI.out.later M.below) (.inl rfl) (S.out.later M.below)).mono ?_; rintro e W2 ⟨rfl, hb⟩; rw [HC.out, hnil]; have M2 := M.call hb; clear hb)
          | (go_at_call 44; refine (length_any _ n n _).mono ?_; rintro e w' ⟨rfl, rfl⟩))
        have HM2 := Lib.hid M2
        have hw1 : IntKind.i64.wrap ((k : Int) + 1) = (k : Int) + 1 := by rw [IntKind.wrap_i64]; omega
        refine wp_region_rel_tail 8 (DL [dV (.slice (some ⟨b, 0, none⟩) n n), dV (.int .i64 (k : Int)), dV (.int .i64 (k : Int)), dV (.int .i64 ((k : Int) + 1)), dV (.slice (some ⟨b, k, none⟩) 1 1), dV (.agg (fcells f)), dV (.int .i64 s), dV (.agg (acells .u64 2 (wantSet f (sawQ 1 (fun i => g (k + i)) s) 100)))]) (fun w' => Mem w w' [⟨w.heap.size, fcells f, 30⟩, ⟨w.heap.size + 1, acells .u64 2 (fun _ => 0), 45⟩]) (by kernel_rfl) (by kernel_rfl) grows_mem
          (stays_DL (fun d hd => by
    simp only [List.mem_cons, List.mem_nil_iff, or_false] at hd
    rcases hd with rfl | rfl | rfl | rfl | rfl | rfl | rfl | rfl <;> exact stay_V)) M2.drew ?_
        refine rel_val (.slice (some ⟨b, 0, none⟩) n n) rfl rfl (fun _ _ => rfl) (fun _ => ?_)
        simp only [Act.put, List.setIfInBounds_toArray, List.set_cons_zero, List.set_cons_succ]
        refine rel_val (.int .i64 (k : Int)) rfl rfl (fun _ _ => rfl) (fun _ => ?_)
        simp only [Act.put, List.setIfInBounds_toArray, List.set_cons_zero, List.set_cons_succ]
        refine rel_val (.int .i64 (k : Int)) rfl rfl (fun _ _ => rfl) (fun _ => ?_)
        simp only [Act.put, List.setIfInBounds_toArray, List.set_cons_zero, List.set_cons_succ]
        refine rel_val (.int .i64 ((k : Int) + 1)) rfl rfl (fun _ _ => by rw [← hw1]; rfl) (fun _ => ?_)
        simp only [Act.put, List.setIfInBounds_toArray, List.set_cons_zero, List.set_cons_succ]
        refine rel_call (.slice (some ⟨b, k, none⟩) 1 1) 56 #[.slice (some ⟨b, 0, none⟩) n n, .int .i64 (k : Int), .int .i64 ((k : Int) + 1)] rfl rfl rfl rfl (enters_of Tryd.func56 (by kernel_rfl) rfl) (fun w' _ => (cutM b n k hk (by omega) w').mono (fun e w2 h => ⟨h.1, by rw [h.2]; exact Below.refl _ _⟩)) (fun _ => ?_)
        simp only [Act.put, List.setIfInBounds_toArray, List.set_cons_zero, List.set_cons_succ]
        refine rel_load 30 _ rfl w.heap.size 0 rfl (fcells f) _ rfl rfl (fun w' hw' => (hw'.at 0 rfl).whole) Tryd.underlying30 rfl (by rw [fcells_size]; exact sizeFd) (fun _ => ?_)
        simp only [Act.put, List.setIfInBounds_toArray, List.set_cons_zero, List.set_cons_succ]
        refine rel_val (.int .i64 s) rfl rfl (fun _ _ => rfl) (fun _ => ?_)
        simp only [Act.put, List.setIfInBounds_toArray, List.set_cons_zero, List.set_cons_succ]
        refine rel_call (.agg (acells .u64 2 (wantSet f (sawQ 1 (fun i => g (k + i)) s) 100))) 52 #[.slice (some ⟨b, k, none⟩) 1 1, .agg (fcells f), .int .i64 s] rfl rfl rfl rfl (enters_of Tryd.func52 (by kernel_rfl) rfl) (fun w' hw' => seenBy_off f hf hok 1 (by omega) (by omega) _ HG1.out s hs b k 1 w' (HI1.out w' hw'.below)) (fun _ => ?_)
        simp only [Act.put, List.setIfInBounds_toArray, List.set_cons_zero, List.set_cons_succ]
        refine rel_nil (fun W8 inv => ?_)
        have M9 := inv.cls
        clear inv M2
        change wpList _ _ _ (_ :: [_]) _ _
        refine wpList_store_row rfl 45 _ _ rfl (w.heap.size + 1) (acells .u64 2 (wantSet f (sawQ 1 (fun i => g (k + i)) s) 100)) rfl rfl 45 _ (M9.at 1 rfl) (by rw [acells_size]; exact sizeC) (by simp only [acells_size]) (acells_one _ _ _) ?_
        have M10 := M9.row 1 rfl (acells .u64 2 (wantSet f (sawQ 1 (fun i => g (k + i)) s) 100))
        go_wp2_with fail
        exact bodyPost_ret (results_row_tmp rfl _ _ (w.heap.size + 1) 45 _ _ _ rfl (M10.at 1 rfl) Tryd.underlying45 rfl (by rw [acells_size]; exact sizeC)) rfl ⟨rfl, M10.below⟩
      · have HT : satCode f n g s x = 2 := beatAsk_bad h1 (by rw [inB_false (n := x) (lo := 0) (hi := (n : Int) - 1) (.inr (by omega)), Bool.and_false])
        unfold satSet
        rw [HT, if_neg (by decide)]
        have t1 : decide (x < 0) = false := decide_eq_false (by omega)
        have t2 : decide ((n : Int) ≤ x) = true := decide_eq_true (by omega)
        clear h1 HT
        go_enter Tryd.func33, Tryd.ntmps33
        go_upto_region 1 with (fail)
        rw [zero2]
        obtain ⟨W, hW, M⟩ := open2 w (fcells f) 30 (acells .u64 2 (fun _ => 0)) 45
        rw [hW]; clear hW
        have ok0 : True := trivial
        have ok1 : True := trivial
        have ok2 : True := trivial
        have ok3 : True := trivial
        go_wp2_with (first
          | (clear ok0; refine wpList_load_part rfl 30 _ rfl (w.heap.size) 0 rfl (fcells f) _ (M.at 0 rfl).whole Tryd.underlying30 rfl (by rw [fcells_size]; exact sizeFd) ?_)
          | (clear ok1; go_at_call 51; refine (checkWatching_any f hf n hn g hg s 0 (by omega) (fun _ => 0) (fun i hi => absurd hi (by omega)) b n none 0 A _ (HI.out.later M.below) (.inl rfl) (S.out.later M.below)).mono ?_; rintro e W2 ⟨rfl, hb⟩; rw [HC.out, hnil]; have M2 := M.call hb; clear hb; have v2 := (S.out.later M2.below).v2)
          | (go_at_call 44; refine (length_any _ n n _).mono ?_; rintro e w' ⟨rfl, rfl⟩)
          | (go_at_call 43; refine (codeOf_err A 2 (by omega) (by omega) _ (S.out.later M2.below)).mono ?_; rintro e W3 ⟨rfl, rfl⟩)
          | (refine wpList_store_row rfl 45 _ _ rfl (w.heap.size + 1) (acells .u64 2 (fun _ => 0)) rfl rfl 45 _ (M2.at 1 rfl) (by rw [acells_size]; exact sizeC) (by simp only [acells_size]) (acells_one _ _ _) ?_))
        have M4 := M2.row 1 rfl (acells .u64 2 (fun _ => 0))
        exact bodyPost_ret (results_row_tmp rfl _ _ (w.heap.size + 1) 45 _ _ _ rfl (M4.at 1 rfl) Tryd.underlying45 rfl (by rw [acells_size]; exact sizeC)) rfl ⟨rfl, M4.below⟩
    · have HT : satCode f n g s x = 2 := beatAsk_bad h1 (by rw [inB_false (n := x) (lo := 0) (hi := (n : Int) - 1) (.inl (by omega)), Bool.and_false])
      unfold satSet
      rw [HT, if_neg (by decide)]
      have t1 : decide (x < 0) = true := decide_eq_true (by omega)
      clear h1 HT
      go_enter Tryd.func33, Tryd.ntmps33
      go_upto_region 1 with (fail)
      rw [zero2]
      obtain ⟨W, hW, M⟩ := open2 w (fcells f) 30 (acells .u64 2 (fun _ => 0)) 45
      rw [hW]; clear hW
      have ok0 : True := trivial
      have ok1 : True := trivial
      have ok2 : True := trivial
      have ok3 : True := trivial
      go_wp2_with (first
        | (clear ok0; refine wpList_load_part rfl 30 _ rfl (w.heap.size) 0 rfl (fcells f) _ (M.at 0 rfl).whole Tryd.underlying30 rfl (by rw [fcells_size]; exact sizeFd) ?_)
        | (clear ok1; go_at_call 51; refine (checkWatching_any f hf n hn g hg s 0 (by omega) (fun _ => 0) (fun i hi => absurd hi (by omega)) b n none 0 A _ (HI.out.later M.below) (.inl rfl) (S.out.later M.below)).mono ?_; rintro e W2 ⟨rfl, hb⟩; rw [HC.out, hnil]; have M2 := M.call hb; clear hb; have v2 := (S.out.later M2.below).v2)
        | (go_at_call 44; refine (length_any _ n n _).mono ?_; rintro e w' ⟨rfl, rfl⟩)
        | (go_at_call 43; refine (codeOf_err A 2 (by omega) (by omega) _ (S.out.later M2.below)).mono ?_; rintro e W3 ⟨rfl, rfl⟩)
        | (refine wpList_store_row rfl 45 _ _ rfl (w.heap.size + 1) (acells .u64 2 (fun _ => 0)) rfl rfl 45 _ (M2.at 1 rfl) (by rw [acells_size]; exact sizeC) (by simp only [acells_size]) (acells_one _ _ _) ?_))
      have M4 := M2.row 1 rfl (acells .u64 2 (fun _ => 0))
      exact bodyPost_ret (results_row_tmp rfl _ _ (w.heap.size + 1) 45 _ _ _ rfl (M4.at 1 rfl) Tryd.underlying45 rfl (by rw [acells_size]; exact sizeC)) rfl ⟨rfl, M4.below⟩
  · have HT : satCode f n g s x = c1 := by
      unfold satCode
      cases q : okB f n g with
      | false => rw [beatAsk_no q] at hc1 ⊢; exact hc1
      | true =>
        have q2 : inB s 0 50 = false := by
          cases q3 : inB s 0 50 with
          | false => rfl
          | true => rw [beatAsk_ok q (by rw [q3]; rfl)] at hc1; exact absurd hc1.symm hz
        rw [beatAsk_bad q (by rw [q2]; rfl)] at hc1 ⊢; exact hc1
    unfold satSet
    rw [HT, if_neg hz]
    have hce : codeErr A c1 = errVal (A c1.toNat) := by unfold codeErr; rw [if_neg hz]
    obtain ⟨q, hq1, hq2, rfl⟩ : ∃ q : Nat, 1 ≤ q ∧ q ≤ 2 ∧ c1 = (q : Int) := ⟨c1.toNat, by omega, by omega, by omega⟩
    rw [Int.toNat_natCast] at hce
    clear hc1 hcs hz HT
    rcases (show q = 1 ∨ q = 2 by omega) with rfl | rfl
    · go_enter Tryd.func33, Tryd.ntmps33
      go_upto_region 1 with (fail)
      rw [zero2]
      obtain ⟨W, hW, M⟩ := open2 w (fcells f) 30 (acells .u64 2 (fun _ => 0)) 45
      rw [hW]; clear hW
      have ok1 : True := trivial
      go_wp2_with (first
        | (refine wpList_load_part rfl 30 _ rfl (w.heap.size) 0 rfl (fcells f) _ (M.at 0 rfl).whole Tryd.underlying30 rfl (by rw [fcells_size]; exact sizeFd) ?_)
        | (clear ok1; go_at_call 51; refine (checkWatching_any f hf n hn g hg s 0 (by omega) (fun _ => 0) (fun i hi => absurd hi (by omega)) b n none 0 A _ (HI.out.later M.below) (.inl rfl) (S.out.later M.below)).mono ?_; rintro e W2 ⟨rfl, hb⟩; rw [HC.out, hce]; have M2 := M.call hb; clear hb; have v2 := (S.out.later M2.below).v1)
        | (go_at_call 43; refine (codeOf_err A 1 (by omega) (by omega) _ (S.out.later M2.below)).mono ?_; rintro e W3 ⟨rfl, rfl⟩)
        | (refine wpList_store_row rfl 45 _ _ rfl (w.heap.size + 1) (acells .u64 2 (fun _ => 0)) rfl rfl 45 _ (M2.at 1 rfl) (by rw [acells_size]; exact sizeC) (by simp only [acells_size]) (acells_one _ _ _) ?_))
      have M4 := M2.row 1 rfl (acells .u64 2 (fun _ => 0))
      exact bodyPost_ret (results_row_tmp rfl _ _ (w.heap.size + 1) 45 _ _ _ rfl (M4.at 1 rfl) Tryd.underlying45 rfl (by rw [acells_size]; exact sizeC)) rfl ⟨rfl, M4.below⟩
    · go_enter Tryd.func33, Tryd.ntmps33
      go_upto_region 1 with (fail)
      rw [zero2]
      obtain ⟨W, hW, M⟩ := open2 w (fcells f) 30 (acells .u64 2 (fun _ => 0)) 45
      rw [hW]; clear hW
      have ok1 : True := trivial
      go_wp2_with (first
        | (refine wpList_load_part rfl 30 _ rfl (w.heap.size) 0 rfl (fcells f) _ (M.at 0 rfl).whole Tryd.underlying30 rfl (by rw [fcells_size]; exact sizeFd) ?_)
        | (clear ok1; go_at_call 51; refine (checkWatching_any f hf n hn g hg s 0 (by omega) (fun _ => 0) (fun i hi => absurd hi (by omega)) b n none 0 A _ (HI.out.later M.below) (.inl rfl) (S.out.later M.below)).mono ?_; rintro e W2 ⟨rfl, hb⟩; rw [HC.out, hce]; have M2 := M.call hb; clear hb; have v2 := (S.out.later M2.below).v2)
        | (go_at_call 43; refine (codeOf_err A 2 (by omega) (by omega) _ (S.out.later M2.below)).mono ?_; rintro e W3 ⟨rfl, rfl⟩)
        | (refine wpList_store_row rfl 45 _ _ rfl (w.heap.size + 1) (acells .u64 2 (fun _ => 0)) rfl rfl 45 _ (M2.at 1 rfl) (by rw [acells_size]; exact sizeC) (by simp only [acells_size]) (acells_one _ _ _) ?_))
      have M4 := M2.row 1 rfl (acells .u64 2 (fun _ => 0))
      exact bodyPost_ret (results_row_tmp rfl _ _ (w.heap.size + 1) 45 _ _ _ rfl (M4.at 1 rfl) Tryd.underlying45 rfl (by rw [acells_size]; exact sizeC)) rfl ⟨rfl, M4.below⟩
end Go.Proofs.YtdjbaajcgipebaaDoor
