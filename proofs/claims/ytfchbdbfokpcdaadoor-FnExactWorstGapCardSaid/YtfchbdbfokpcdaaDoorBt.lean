/-
  Beats: cells to walk on, steps; beats that are valid: the model's test, the program's.
-/
import Derived.Test.YtfchbdbfokpcdaaDoorHlf
import Derived.Test.YtfchbdbfokpcdaaDoorSquare
import Derived.Test.YtfchbdbfokpcdaaDoorRegM
import Derived.Outline
namespace Go.Proofs.YtfchbdbfokpcdaaDoor
open Go Go.RowKit

def walkQ (f : Fd) (c : Int) : Bool := isCell f c && (f.K c.toNat == 0 || f.K c.toNat == 2)
theorem walkQ_cell {f : Fd} {c : Int} (h : walkQ f c = true) : isCell f c = true := by unfold walkQ at h; rw [Bool.and_eq_true] at h; exact h.1
theorem walkQ_no {f : Fd} {c : Int} (h : isCell f c = false) : walkQ f c = false := by unfold walkQ; rw [h]; rfl
theorem walkQ_nat {f : Fd} {k : Nat} (h : isCell f (k : Int) = true) : walkQ f (k : Int) = (f.K k == 0 || f.K k == 2) := by unfold walkQ; rw [h, Bool.true_and, Int.toNat_natCast]
theorem walkQ_lt {f : Fd} {c : Int} (h : walkQ f c = true) : ∃ k : Nat, k < 100 ∧ c = (k : Int) := cell_nat (walkQ_cell h)
set_option maxRecDepth 100000 in
set_option maxHeartbeats 1000000 in
theorem l05Walk_any (f : Fd) (hf : f.Wf) (c : Int) (b : Nat) (w : World) (B : Blk w b (fcells f) 31) :
    Calls Tryd.prog 45 #[.pointer (some ⟨b, 0, none⟩), .int .i64 c] w fun e w' => e = .returned (.bool (walkQ f c)) ∧ w = w' := by
  have HB := Lib.hid B
  clear B
  cases hc : isCell f c with
  | false =>
    rw [walkQ_no hc]
    go_enter Tryd.func45, Tryd.ntmps45
    go_wp2_with (go_at_call 18; refine (l01Is_any f c b _ hf.W hf.H HB.out).mono ?_; rintro e w' ⟨rfl, rfl⟩; rw [hc])
    go_ret
    exact ⟨rfl, rfl⟩
  | true =>
    obtain ⟨k, hk, rfl⟩ := cell_nat hc
    rw [walkQ_nat hc]
    have cK := HB.out.cell (fcells_K f k hk)
    have hk1 : (k : Int) < 100 := by omega
    have hKb := hf.K k hk
    cases h0 : (f.K k == 0) with
    | true =>
      rw [Bool.true_or]
      go_enter Tryd.func45, Tryd.ntmps45
      go_wp2_with (go_at_call 18; refine (l01Is_any f k b _ hf.W hf.H HB.out).mono ?_; rintro e w' ⟨rfl, rfl⟩; rw [hc])
      go_ret
      exact ⟨rfl, rfl⟩
    | false =>
      rw [Bool.false_or]
      go_enter Tryd.func45, Tryd.ntmps45
      go_wp2_with (go_at_call 18; refine (l01Is_any f k b _ hf.W hf.H HB.out).mono ?_; rintro e w' ⟨rfl, rfl⟩; rw [hc])
      go_ret
      exact ⟨rfl, rfl⟩
set_option maxRecDepth 100000 in
set_option maxHeartbeats 2000000 in
theorem canWalk_any (f : Fd) (hf : f.Wf) (hok : okF f = true) (c : Int) (h1 : -32768 ≤ c) (h2 : c ≤ 32767) (w : World) :
    Calls Tryd.prog 63 #[.agg (fcells f), .int .i64 c] w fun e w' => e = .returned (.bool (walkQ f c)) ∧ Below w.heap.size w w' := by
  have hH : f.H ≤ 10 := (okF_size hok).2.2.2
  cases hc : isCell f c with
  | false =>
    rw [walkQ_no hc]
    go_enter Tryd.func63, Tryd.ntmps63
    go_upto_region 1 with (fail)
    obtain ⟨W, hW, M⟩ := open1 w (fcells f) 31
    rw [hW]; clear hW
    go_wp2_with (first
      | (refine wpList_load_part rfl 31 _ rfl (w.heap.size) 0 rfl (fcells f) _ (M.at 0 rfl).whole Tryd.underlying31 rfl (by rw [fcells_size]; exact sizeFd) ?_)
      | (go_at_call 49; refine (fieldHas_any f hf hH c (by omega) (by omega) _).mono ?_; rintro e W2 ⟨rfl, hb⟩; rw [hc]; have M2 := M.call hb; clear M hb))
    go_ret
    exact ⟨rfl, M2.below⟩
  | true =>
    obtain ⟨k, hk, rfl⟩ := cell_nat hc
    rw [walkQ_nat hc]
    have hk1 : (k : Int) < 100 := by omega
    have hKb := hf.K k hk
    cases h0 : (f.K k == 0) with
    | true =>
      rw [Bool.true_or]
      go_enter Tryd.func63, Tryd.ntmps63
      go_upto_region 1 with (fail)
      obtain ⟨W, hW, M⟩ := open1 w (fcells f) 31
      rw [hW]; clear hW
      go_wp2_with (first
        | (refine wpList_load_part rfl 31 _ rfl (w.heap.size) 0 rfl (fcells f) _ (M.at 0 rfl).whole Tryd.underlying31 rfl (by rw [fcells_size]; exact sizeFd) ?_)
        | (go_at_call 49; refine (fieldHas_any f hf hH k (by omega) (by omega) _).mono ?_; rintro e W2 ⟨rfl, hb⟩; rw [hc]; have M2 := M.call hb; clear M hb; have cK := (M2.at 0 rfl).cell (fcells_K f k hk)))
      go_ret
      exact ⟨rfl, M2.below⟩
    | false =>
      rw [Bool.false_or]
      go_enter Tryd.func63, Tryd.ntmps63
      go_upto_region 1 with (fail)
      obtain ⟨W, hW, M⟩ := open1 w (fcells f) 31
      rw [hW]; clear hW
      go_wp2_with (first
        | (refine wpList_load_part rfl 31 _ rfl (w.heap.size) 0 rfl (fcells f) _ (M.at 0 rfl).whole Tryd.underlying31 rfl (by rw [fcells_size]; exact sizeFd) ?_)
        | (go_at_call 49; refine (fieldHas_any f hf hH k (by omega) (by omega) _).mono ?_; rintro e W2 ⟨rfl, hb⟩; rw [hc]; have M2 := M.call hb; clear M hb; have cK := (M2.at 0 rfl).cell (fcells_K f k hk)))
      go_ret
      exact ⟨rfl, M2.below⟩
/-- The square of two places, whatever numbers they have. -/
def sqG (a b : Int) : Int := (a.tmod 10 - b.tmod 10) * (a.tmod 10 - b.tmod 10) + (a.tdiv 10 - b.tdiv 10) * (a.tdiv 10 - b.tdiv 10)
theorem sqG_nat (a b : Nat) : sqG a b = sq a b := by
  unfold sqG sq
  rw [Int.tdiv_eq_ediv_of_nonneg (by omega), Int.tmod_eq_emod_of_nonneg (by omega), Int.tdiv_eq_ediv_of_nonneg (by omega), Int.tmod_eq_emod_of_nonneg (by omega)]
theorem sq_big {x : Int} (h1 : -10000 ≤ x) (h2 : x ≤ 10000) : 0 ≤ x * x ∧ x * x ≤ 100000000 := by
  have e : (x * x).natAbs = x.natAbs * x.natAbs := Int.natAbs_mul x x
  have h3 : x.natAbs * x.natAbs ≤ 10000 * 10000 := Nat.mul_le_mul (by omega) (by omega)
  have h4 : 0 ≤ x * x := by
    rcases Int.le_total 0 x with h | h
    · exact Int.mul_nonneg h h
    · exact Int.mul_nonneg_of_nonpos_of_nonpos h h
  omega
theorem tparts {a : Int} (h1 : -32768 ≤ a) (h2 : a ≤ 32767) : -9 ≤ a.tmod 10 ∧ a.tmod 10 ≤ 9 ∧ -3277 ≤ a.tdiv 10 ∧ a.tdiv 10 ≤ 3277 := by
  have h3 := Int.lt_tmod_of_pos a (b := 10) (by omega)
  have h4 := Int.tmod_lt_of_pos a (b := 10) (by omega)
  have h5 := Int.mul_tdiv_add_tmod a 10
  generalize a.tmod 10 = x at *
  generalize a.tdiv 10 = y at *
  omega
set_option maxHeartbeats 1000000 in
theorem squareG_any (a b : Int) (ha1 : -32768 ≤ a) (ha2 : a ≤ 32767) (hb1 : -32768 ≤ b) (hb2 : b ≤ 32767) (w : World) : Calls Tryd.prog 68 #[.int .i64 a, .int .i64 b] w fun e w' => e = .returned (.int .i64 (sqG a b)) ∧ w = w' := by
  obtain ⟨p1, p2, p3, p4⟩ := tparts ha1 ha2
  obtain ⟨q1, q2, q3, q4⟩ := tparts hb1 hb2
  have ka := placeOf_any a
  have kb := placeOf_any b
  rw [tdiv_small a (by omega) (by omega)] at ka
  rw [tdiv_small b (by omega) (by omega)] at kb
  unfold sqG
  have KA := Lib.hid ka
  have KB := Lib.hid kb
  clear ka kb
  obtain ⟨ax, hax⟩ : ∃ x, a.tmod 10 = x := ⟨_, rfl⟩
  obtain ⟨ay, hay⟩ : ∃ x, a.tdiv 10 = x := ⟨_, rfl⟩
  obtain ⟨bx, hbx⟩ : ∃ x, b.tmod 10 = x := ⟨_, rfl⟩
  obtain ⟨by', hby⟩ : ∃ x, b.tdiv 10 = x := ⟨_, rfl⟩
  rw [hax] at p1 p2
  rw [hay] at p3 p4
  rw [hbx] at q1 q2
  rw [hby] at q3 q4
  have KA2 : Hid (∀ w9 : World, Calls Tryd.prog 66 #[.int .i64 a] w9 fun e w' => e = .returned (.tuple #[.int .i64 ax, .int .i64 ay]) ∧ w9 = w') := Lib.hid (fun w9 => by have h := KA.out w9; rw [hax, hay] at h; exact h)
  have KB2 : Hid (∀ w9 : World, Calls Tryd.prog 66 #[.int .i64 b] w9 fun e w' => e = .returned (.tuple #[.int .i64 bx, .int .i64 by']) ∧ w9 = w') := Lib.hid (fun w9 => by have h := KB.out w9; rw [hbx, hby] at h; exact h)
  rw [hax, hay, hbx, hby]
  clear KA KB hax hay hbx hby
  obtain ⟨h1, h2⟩ := sq_big (x := ax - bx) (by omega) (by omega)
  obtain ⟨h3, h4⟩ := sq_big (x := ay - by') (by omega) (by omega)
  have ok1 : True := trivial
  have ok2 : True := trivial
  go_enter Tryd.func68, Tryd.ntmps68
  go_wp2_with (first
    | (clear ok1; go_at_call 66; refine (KA2.out _).mono ?_; rintro e w' ⟨rfl, rfl⟩)
    | (clear ok2; go_at_call 66; refine (KB2.out _).mono ?_; rintro e w' ⟨rfl, rfl⟩))
  go_ret
  exact ⟨rfl, rfl⟩
theorem isStep_any (a b : Int) (ha1 : -32768 ≤ a) (ha2 : a ≤ 32767) (hb1 : -32768 ≤ b) (hb2 : b ≤ 32767) (w : World) : Calls Tryd.prog 65 #[.int .i64 a, .int .i64 b] w fun e w' => e = .returned (.bool (decide (sqG a b ≤ 1))) ∧ w = w' := by
  obtain ⟨x, hx⟩ : ∃ x, sqG a b = x := ⟨_, rfl⟩
  have HX := Lib.hid hx
  rw [hx]
  clear hx
  go_enter Tryd.func65, Tryd.ntmps65
  go_wp2_with (go_at_call 68; refine (squareG_any a b ha1 ha2 hb1 hb2 _).mono ?_; rintro e w' ⟨rfl, rfl⟩; rw [HX.out])
  go_ret
  exact ⟨rfl, rfl⟩
theorem length_any (p : Option Addr) (n c : Nat) (w : World) : Calls Tryd.prog 37 #[.slice p n c] w fun e w' => e = .returned (.int .i64 n) ∧ w = w' := by
  go_enter Tryd.func37, Tryd.ntmps37
  go_wp2_with fail
  go_ret
  exact ⟨rfl, rfl⟩
theorem isLength_any (n : Int) (w : World) : Calls Tryd.prog 62 #[.int .i64 n] w fun e w' => e = .returned (.bool (inB n 1 40)) ∧ w = w' := by
  by_cases h1 : 1 ≤ n
  · by_cases h2 : n ≤ 40
    · rw [inB_iff.2 ⟨h1, h2⟩]
      go_enter Tryd.func62, Tryd.ntmps62
      go_wp2_with fail
      go_ret
      exact ⟨rfl, rfl⟩
    · rw [inB_false (.inr (by omega))]
      go_enter Tryd.func62, Tryd.ntmps62
      go_wp2_with fail
      go_ret
      exact ⟨rfl, rfl⟩
  · rw [inB_false (.inl (by omega))]
    go_enter Tryd.func62, Tryd.ntmps62
    go_wp2_with fail
    go_ret
    exact ⟨rfl, rfl⟩
theorem nat_tmod {m n i : Nat} (hm : m % n = i) : (m : Int) % (n : Int) = (i : Int) := by rw [← hm]; exact (Int.natCast_emod m n).symm
theorem at_any (b n c : Nat) (hn1 : 1 ≤ n) (hn2 : n ≤ 40) (g : Nat → Int) (m i : Nat) (hm : m % n = i) (hmb : m ≤ 1000) (hg : WfH n g) (w : World) (I : InH w b 0 n g) : Calls Tryd.prog 64 #[.slice (some ⟨b, 0, none⟩) n c, .int .i64 m] w fun e w' => e = .returned (.int .i64 (g i)) ∧ w = w' := by
  have hi : i < n := by rw [← hm]; exact Nat.mod_lt _ (by omega)
  have d0 := I i hi
  rw [Nat.zero_add] at d0
  obtain ⟨g1, g2⟩ := hg i hi
  have HM := Lib.hid (nat_tmod hm)
  clear I hm hg
  go_enter Tryd.func64, Tryd.ntmps64
  go_upto_region 1 with (fail)
  have hmod := HM.out
  go_wp2_with (go_at_call 37; refine (length_any _ n c _).mono ?_; rintro e w' ⟨rfl, rfl⟩)
  go_ret
  exact ⟨rfl, rfl⟩
theorem at_next (b n c : Nat) (hn1 : 1 ≤ n) (hn2 : n ≤ 40) (g : Nat → Int) (k i : Nat) (hm : (k + 1) % n = i) (hmb : k ≤ 900) (hg : WfH n g) (w : World) (I : InH w b 0 n g) : Calls Tryd.prog 64 #[.slice (some ⟨b, 0, none⟩) n c, .int .i64 ((k : Int) + 1)] w fun e w' => e = .returned (.int .i64 (g i)) ∧ w = w' :=
  at_any b n c hn1 hn2 g (k + 1) i hm (by omega) hg w I
end Go.Proofs.YtfchbdbfokpcdaaDoor
