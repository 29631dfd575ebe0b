/-
  The minutes in which a cell is seen: the model's, the program's.
-/
import Derived.Test.YtdjbaajcgipebaaDoorSeenS
import Derived.Test.YtdjbaajcgipebaaDoorGapM
import Derived.Test.YtdjbaajcgipebaaDoorWatch
namespace Go.Proofs.YtdjbaajcgipebaaDoor
open Go Go.RowKit

theorem minL_S' (n : Nat) (g : Nat → Int) (s : Int) (c W : Nat) : ∀ k, minL n g s c W k = minS (seenB n g s c W) k
  | 0 => rfl
  | k + 1 => by rw [minL, minS, minL_S' n g s c W k]
def minList (f : Fd) (n : Nat) (g : Nat → Int) (s x : Int) : List Int := if beatAsk f n g s (isCell f x) = 0 then minL n g s x.toNat 1 n else []
theorem minList_le (f : Fd) (n : Nat) (g : Nat → Int) (s x : Int) : (minList f n g s x).length ≤ n := by
  unfold minList; split
  · exact minL_le n g s _ 1 n
  · simp
def MinP (f : Fd) (n : Nat) (g : Nat → Int) (s x : Int) (w : World) (e : Ending) (w' : World) : Prop :=
  ∃ p c, e = .returned (.tuple #[.slice p (minList f n g s x).length c, .int .i64 (beatAsk f n g s (isCell f x))]) ∧ NV w.heap.size w'.heap.size w' p (minList f n g s x).length (fun i => (minList f n g s x).getD i 0) ∧ NW w.heap.size w'.heap.size w' p (minList f n g s x).length ∧ Below w.heap.size w w'
theorem minP_bad {f : Fd} {n : Nat} {g : Nat → Int} {s x : Int} {w w' : World} {c0 : Int} (hc : beatAsk f n g s (isCell f x) = c0) (hne : c0 ≠ 0) (p : Option Addr) (c : Nat) (hb : Below w.heap.size w w') : MinP f n g s x w (.returned (.tuple #[.slice p 0 c, .int .i64 c0])) w' := by
  have hN : minList f n g s x = [] := by unfold minList; rw [hc, if_neg hne]
  exact ⟨p, c, by rw [hN, hc]; rfl, .inl (by rw [hN]; rfl), .inl (by rw [hN]; rfl), hb⟩
theorem minP_ok {f : Fd} {n : Nat} {g : Nat → Int} {s x : Int} {w w' : World} {v : Value} {l : List Int} (hc : beatAsk f n g s (isCell f x) = 0) (hl : minL n g s x.toNat 1 n = l) (lo : Nat) (hlo : w.heap.size ≤ lo) (ho : w'.ownsRow lo 2 1 v l.length (l.map (Value.int .i64))) (hb : Below w.heap.size w w') : MinP f n g s x w (.returned (.tuple #[v, .int .i64 0])) w' := by
  have hN : minList f n g s x = l := by unfold minList; rw [hc, if_pos rfl]; exact hl
  obtain ⟨p, c, rfl, V, X⟩ := Nown rfl ho
  exact ⟨p, c, by rw [hN, hc], by rw [hN]; exact V.mono hlo (Nat.le_refl _), by rw [hN]; exact X.mono hlo (Nat.le_refl _), hb⟩
set_option maxRecDepth 100000 in
set_option maxHeartbeats 8000000 in
theorem specMinutesOf (f : Fd) (hf : f.Wf) (n : Nat) (hn : n ≤ 2 ^ 40) (g : Nat → Int) (hg : WfH n g) (s x : Int) (b c : Nat) (w : World) (I : InH w b 0 n g) :
    Calls Tryd.prog 27 #[.agg (fcells f), .slice (some ⟨b, 0, none⟩) n c, .int .i64 s, .int .i64 x] w (MinP f n g s x w) := by
  have HI := Lib.hid I
  clear I
  obtain ⟨i0, hinf, hz0, hz1, hz2⟩ := info_parts Ninfo
  obtain ⟨a1, ha1⟩ : ∃ y, isCell f x = y := ⟨_, rfl⟩
  have A1 := Lib.hid ha1
  obtain ⟨c0, hc0⟩ : ∃ y, beatAsk f n g s a1 = y := ⟨_, rfl⟩
  have HC := Lib.hid hc0
  have HCF : Hid (beatAsk f n g s (isCell f x) = c0) := Lib.hid (by rw [ha1]; exact hc0)
  clear ha1 hc0
  by_cases hz : c0 = 0
  · subst hz
    obtain ⟨h1, h2, h3⟩ := beatAsk_0 HCF.out
    obtain ⟨_, n1, n2⟩ := okB_iff h1
    obtain ⟨k, hk, rfl⟩ := cell_nat h3
    have hG := Lib.hid (CellsG.of (okB_ok h1))
    obtain ⟨S, hS⟩ : ∃ S, seenB n g s k 1 = S := ⟨_, rfl⟩
    have HL : Hid (minL n g s ((k : Int)).toNat 1 n = minS S n) := Lib.hid (by rw [Int.toNat_natCast, minL_S', hS])
    have HS := Lib.hid hS
    have hcnt : ∀ q, q ≤ n → (minS S q).length ≤ 40 := fun q hq => Nat.le_trans (minS_mono hq) (by rw [← hS, ← minL_S']; exact Nat.le_trans (minL_le n g s k 1 n) n2)
    have HCNT := Lib.hid hcnt
    clear h1 h3 hS hcnt
    go_enter Tryd.func27, Tryd.ntmps27
    go_upto_region 1 with (fail)
    obtain ⟨Wo, hWo, M⟩ := open1 w (fcells f) 30
    rw [hWo]; clear hWo
    go_upto_region 5 with (first
      | (go_at_call 53; refine (l01Is_any f _ _ _ hf.W hf.H (M.at 0 rfl)).mono ?_; rintro e w' ⟨rfl, rfl⟩; rw [A1.out])
      | (go_at_call 41; refine (l05Asked_any f hf n hn g hg s a1 _ b c _ (M.at 0 rfl) (HI.out.later M.below)).mono ?_; rintro e w' ⟨rfl, rfl⟩; rw [HC.out])
      | (go_at_call 54; refine (l05Seen_any n n1 n2 g hG.out s h2 k hk 1 (by omega) b c _ (HI.out.later M.below)).mono ?_; rintro e W2 ⟨b2, rfl, hB, hb⟩; rw [HS.out] at hB; have HB := Lib.hid hB; have M2 := Lib.hid (M.call hb); clear hB hb))
    have s2 := M2.out.below.size
    have R0 : (W2.alloc (.cells #[] 2)).ownsRow W2.heap.size 2 1 (.slice (some ⟨W2.heap.size, 0, none⟩) 0 0) 0 [] := World.ownsRow_made W2 #[] 0 (Nat.le_refl _) (Nat.zero_le _) (by simp)
    have HR0 := Lib.hid R0
    have C0 := Lib.hid ((Below.refl W2.heap.size W2).alloc (Nat.le_refl _) (.cells #[] 2))
    clear R0 M
    go_wp2_with fail
    go_loopw [12, 13] (fun v i wr => ∃ q : Nat, q ≤ n ∧ i = .int .i64 q ∧ Hid (wr.ownsRow W2.heap.size 2 1 v (minS S q).length ((minS S q).map (Value.int .i64))) ∧ Hid (Below W2.heap.size W2 wr)) (fun _ i _ => n - (intOf i).toNat)
    case atStart => exact ⟨0, by omega, rfl, HR0, C0⟩
    case round =>
      clear HR0 C0
      obtain ⟨q, hq, rfl, hO, hB2⟩ := hrel
      by_cases hlt : q < n
      · have c0 := (HB.out.later hB2.out).cell (bcells_get n S q hlt)
        have hlen := HCNT.out q hq
        cases hqq : S q with
        | false =>
          rw [hqq] at c0
          have e := Lib.hid (minS_no hqq)
          go_wp2_with fail
          go_roundw
          case rel => exact ⟨q + 1, by omega, by go_num, by rw [e.out]; exact hO, hB2⟩
          case measure => simp [intOf]; omega
        | true =>
          rw [hqq] at c0
          have e := Lib.hid (minS_yes hqq)
          have hbs := hB2.out.size
          have HO1 := Lib.hid (hO.out.alloc (.cells #[.int .i64 q] 2))
          obtain ⟨L, hL⟩ : ∃ L, minS S q = L := ⟨_, rfl⟩
          rw [hL] at HO1 e hlen
          clear hO hL
          go_wp2_with (at_builtin; refine wpList_append_own _ rfl _ _ 49 rfl W2.heap.size 2 i0 (.int .i64 0) 1 8 Tryd.underlying49 hinf hz0 hz1 hz2 rfl (by decide) _ _ _ rfl HO1.out ⟨wr.heap.size, 0, none⟩ 1 1 [.int .i64 q] rfl rfl ?c1 ?c2 ?c3 ?c4 ?c5 ?_)
          case c1 =>
            intro y u hqu
            have hq0 : y = 0 := by have := (List.getElem?_eq_some_iff.1 hqu).1; simp at this; exact this
            subst hq0
            simp at hqu
            subst hqu
            rw [Addr.add_lit]
            exact (Blk.new wr #[.int .i64 q] 2).cell rfl
          case c2 => intro u hu; simp at hu; subst hu; rfl
          case c3 => unfold maxLen; omega
          case c4 => omega
          case c5 => simp; omega
          intro v2 w2 ho2 hg2 _
          have C2 := Lib.hid (below_own (hB2.out.alloc hB2.out.size (.cells #[.int .i64 q] 2)) (by simp; omega) HO1.out hg2)
          have O2 : Hid (w2.ownsRow W2.heap.size 2 1 v2 (minS S (q + 1)).length ((minS S (q + 1)).map (Value.int .i64))) := Lib.hid (by rw [e.out, List.length_append, List.map_append]; exact ho2)
          clear ho2 hg2 c0
          go_wp2_with fail
          go_roundw
          case rel => exact ⟨q + 1, by omega, by go_num, O2, C2⟩
          case measure => simp [intOf]; omega
      · obtain rfl : q = n := by omega
        go_wp2_with fail
        go_ret2
        exact minP_ok HCF.out HL.out _ s2 hO.out (M2.out.below.trans (hB2.out.mono s2))
  · have hne : (c0 != 0) = true := by simpa using hz
    go_enter Tryd.func27, Tryd.ntmps27
    go_upto_region 1 with (fail)
    obtain ⟨Wo, hWo, M⟩ := open1 w (fcells f) 30
    rw [hWo]; clear hWo
    go_wp2_with (first
      | (go_at_call 53; refine (l01Is_any f _ _ _ hf.W hf.H (M.at 0 rfl)).mono ?_; rintro e w' ⟨rfl, rfl⟩; rw [A1.out])
      | (go_at_call 41; refine (l05Asked_any f hf n hn g hg s a1 _ b c _ (M.at 0 rfl) (HI.out.later M.below)).mono ?_; rintro e w' ⟨rfl, rfl⟩; rw [HC.out]))
    go_ret2
    exact minP_bad HCF.out hz _ _ (M.alloc _ _).below
theorem one_cell (f : Fd) (x : Int) : allTo 1 (fun _ => isCell f x) = isCell f x := by simp [allTo]
theorem inO_one {w : World} {bb : Nat} {x : Int} {t : TypeId} (hB : Blk w bb #[.int .i64 x] t) : InO w (some ⟨bb, 0, none⟩) 1 (fun _ => x) :=
  .inr ⟨bb, rfl, fun i hi => by (have e : i = 0 := by omega); subst e; exact hB.cell (i := 0) rfl⟩
set_option maxRecDepth 100000 in
set_option maxHeartbeats 4000000 in
theorem implMinutesOf (f : Fd) (hf : f.Wf) (n : Nat) (hn : n ≤ 2 ^ 40) (g : Nat → Int) (hg : WfH n g) (s x : Int) (hx : -9223372036854775808 ≤ x ∧ x ≤ 9223372036854775807) (b c : Nat) (A : Nat → Addr) (w : World) (I : InH w b 0 n g) (S0 : Sents w A) :
    Calls Tryd.prog 28 #[.agg (fcells f), .slice (some ⟨b, 0, none⟩) n c, .int .i64 s, .int .i64 x] w (MinP f n g s x w) := by
  have S : Hid (Sents w A) := Lib.hid S0
  have HI := Lib.hid I
  clear S0 I
  have hif := isIfaceErr
  have hx2 : Hid (Wf64 1 (fun _ => x)) := Lib.hid (fun _ _ => hx)
  obtain ⟨c0, hc0⟩ : ∃ y, beatAsk f n g s (isCell f x) = y := ⟨_, rfl⟩
  have HC := Lib.hid hc0
  have HCK : Hid (codeErr A (beatAsk f n g s (allTo 1 (fun _ => isCell f x))) = codeErr A c0) := Lib.hid (by rw [one_cell, hc0])
  have hcase := beatAsk_cases f n g s (isCell f x)
  rw [hc0] at hcase
  clear hc0
  rcases hcase with rfl | hbad
  · obtain ⟨h1, h2, x1⟩ := beatAsk_0 HC.out
    obtain ⟨_, n1, n2⟩ := okB_iff h1
    obtain ⟨k, hk, rfl⟩ := cell_nat x1
    have hG := Lib.hid (CellsG.of (okB_ok h1))
    have HE : Hid (codeErr A 0 = .nilIface) := Lib.hid rfl
    clear h1 x1
    go_enter Tryd.func28, Tryd.ntmps28
    go_upto_region 1 with (fail)
    obtain ⟨Wo, hWo, M⟩ := open1 w (fcells f) 30
    rw [hWo]; clear hWo
    go_wp2_with (first
      | (refine wpList_load_part rfl 30 _ rfl w.heap.size 0 rfl (fcells f) _ (M.at 0 rfl).whole Tryd.underlying30 rfl (by rw [fcells_size]; exact sizeFd) ?_)
      | (go_at_call 51; refine (checkWatching_any f hf n hn g hg s 1 (by omega) (fun _ => (k : Int)) hx2.out b c _ _ A _ (HI.out.later (M.alloc _ _).below) (inO_one (Blk.new _ _ _)) (S.out.later (M.alloc _ _).below)).mono ?_; rintro e W2 ⟨rfl, hb⟩; rw [HCK.out, HE.out]; have M2 := (M.alloc _ _).call hb; clear hb)
      | (go_at_call 55; refine (minutesOf_any n n1 n2 g hG.out s h2 k hk 1 (by omega) b c _ (HI.out.later M2.below)).mono ?_; rintro e W3 ⟨v, rfl, ho, hb⟩; have O3 := Lib.hid ho; have s2 := M2.below.size; have M3 := M2.call hb; clear ho hb M2))
    go_ret2
    exact minP_ok HC.out (by rw [Int.toNat_natCast]) _ s2 O3.out M3.below
  · obtain ⟨q, rfl, q1, q2⟩ : ∃ q : Nat, c0 = (q : Int) ∧ 1 ≤ q ∧ q ≤ 8 := by
      rcases hbad with rfl | rfl
      · exact ⟨1, rfl, by omega, by omega⟩
      · exact ⟨2, rfl, by omega, by omega⟩
    have HE : Hid (codeErr A (q : Int) = errVal (A q)) := Lib.hid (by unfold codeErr; rw [if_neg (by omega), Int.toNat_natCast])
    clear hbad
    go_enter Tryd.func28, Tryd.ntmps28
    go_upto_region 1 with (fail)
    obtain ⟨Wo, hWo, M⟩ := open1 w (fcells f) 30
    rw [hWo]; clear hWo
    go_wp2_with (first
      | (refine wpList_load_part rfl 30 _ rfl w.heap.size 0 rfl (fcells f) _ (M.at 0 rfl).whole Tryd.underlying30 rfl (by rw [fcells_size]; exact sizeFd) ?_)
      | (go_at_call 51; refine (checkWatching_any f hf n hn g hg s 1 (by omega) (fun _ => x) hx2.out b c _ _ A _ (HI.out.later (M.alloc _ _).below) (inO_one (Blk.new _ _ _)) (S.out.later (M.alloc _ _).below)).mono ?_; rintro e W2 ⟨rfl, hb⟩; rw [HCK.out, HE.out]; have M2 := (M.alloc _ _).call hb; clear hb)
      | (go_at_call 43; refine (codeOf_err A q q1 q2 _ (S.out.later M2.below)).mono ?_; rintro e W3 ⟨rfl, rfl⟩))
    go_ret2
    exact minP_bad HC.out (by omega) _ _ M2.below
end Go.Proofs.YtdjbaajcgipebaaDoor
