/-
  To which cells a flock would go: the model's.
-/
import Derived.Test.YtaioflkonpommaaDoorHunger
import Derived.Test.YtaioflkonpommaaDoorFears
import Derived.Test.YtaioflkonpommaaDoorSquare
import Derived.Test.YtaioflkonpommaaDoorCoreD
import Derived.BigQuiet
namespace Go.Proofs.YtaioflkonpommaaDoor
open Go Go.RowKit

theorem sq_comm (a b : Int) : sq a b = sq b a := by
  unfold sq
  rw [show a % 10 - b % 10 = -(b % 10 - a % 10) by omega, show a / 10 - b / 10 = -(b / 10 - a / 10) by omega, Int.neg_mul_neg, Int.neg_mul_neg]
theorem sqW (x c : Int) (hx : 0 ≤ x ∧ x ≤ 99) (hc : 0 ≤ c ∧ c ≤ 99) (w : World) : Calls Tryd.prog 84 #[.int .i64 x, .int .i64 c] w fun e w' => e = .returned (.int .i64 (sq x c)) ∧ w = w' := by
  obtain ⟨m, rfl⟩ : ∃ m : Nat, x = (m : Int) := ⟨x.toNat, by omega⟩
  obtain ⟨k, rfl⟩ : ∃ k : Nat, c = (k : Int) := ⟨c.toNat, by omega⟩
  exact l01Square_any m k (by omega) (by omega) w
theorem open4 (w : World) (c1 : Array Value) (t1 : TypeId) (c2 : Array Value) (t2 : TypeId) (c3 : Array Value) (t3 : TypeId) (c4 : Array Value) (t4 : TypeId) : ∃ W, (((w.alloc (.cells c1 t1)).alloc (.cells c2 t2)).alloc (.cells c3 t3)).alloc (.cells c4 t4) = W ∧ Mem w W [⟨w.heap.size, c1, t1⟩, ⟨w.heap.size + 1, c2, t2⟩, ⟨w.heap.size + 1 + 1, c3, t3⟩, ⟨w.heap.size + 1 + 1 + 1, c4, t4⟩] := by
  have h := ((((Mem.nil w).alloc c1 t1).alloc c2 t2).alloc c3 t3).alloc c4 t4
  simp only [World.size_alloc, List.nil_append, List.cons_append] at h
  exact ⟨_, rfl, h⟩
/-- The cells of a flock. -/
def flc (a : Nat → Int) : Array Value := #[.int .i16 (a 0), .int .i16 (a 1), .int .i16 (a 2), .int .i16 (a 3), .int .i16 (a 4), .int .i8 (a 5)]
theorem flc_at {w : World} {b : Nat} {a : Nat → Int} {t : TypeId} (B : Blk w b (flc a) t) : FlkAt w b 0 a := flk_mem B
theorem FlkAt.later {w w' : World} {b o : Nat} {a : Nat → Int} (h : FlkAt w b o a) (hb : Below w.heap.size w w') : FlkAt w' b o a :=
  ⟨cell_still h.c0 hb, cell_still h.c1 hb, cell_still h.c2 hb, cell_still h.c3 hb, cell_still h.c4 hb, cell_still h.c5 hb⟩
/-- Whether a flock would go to a cell of the field. -/
def wldQ (f : Fd) (g a : Nat → Int) (k : Nat) : Bool := decide (0 < f.S k) && decide (g k ≤ a 3) && decide (sq (k : Int) (a 0) ≤ a 4)

set_option maxRecDepth 100000 in
set_option maxHeartbeats 8000000 in
theorem l02Would_any (f : Fd) (hf : f.Wf) (g : Nat → Int) (hg : Wf16 g) (a : Nat → Int) (ha : WfR a) (h0 : 0 ≤ a 0 ∧ a 0 ≤ 99) (k : Nat) (hk : k < 100) (b c d o : Nat) (w : World) (B : Blk w b (fcells f) 30) (G : Blk w c (acells .i16 100 g) 36) (H : FlkAt w d o a) :
    Calls Tryd.prog 66 #[.pointer (some ⟨b, 0, none⟩), .pointer (some ⟨c, 0, none⟩), .pointer (some ⟨d, o, none⟩), .int .i64 (k : Int)] w fun e w' => e = .returned (.bool (isCell f (k : Int) && wldQ f g a k)) ∧ Below w.heap.size w w' := by
  have HB := Lib.hid B
  have cS := B.cell (fcells_S f k hk)
  have cG : w.cell? ⟨c, k, none⟩ = some (.int .i16 (g k)) := G.cell (acells_get _ _ _ _ hk)
  obtain ⟨c0, _, _, c3, c4, _⟩ := H
  obtain ⟨⟨a01, a02⟩, _, _, ⟨a31, a32⟩, ⟨a41, a42⟩, _⟩ := ha
  have hk1 : (k : Int) < 100 := by omega
  have HSQ := Lib.hid (fun w => sqW (k : Int) (a 0) ⟨by omega, by omega⟩ ⟨by omega, by omega⟩ w)
  unfold wldQ
  obtain ⟨s, hs⟩ : ∃ s, sq (k : Int) (a 0) = s := ⟨_, rfl⟩
  rw [hs] at HSQ ⊢
  clear hs
  clear B G
  cases hc : isCell f (k : Int) with
  | false =>
    rw [Bool.false_and]
    have HC := Lib.hid hc
    clear hc
    go_enter Tryd.func66, Tryd.ntmps66
    go_upto_region 1 with (fail)
    go_quiet ((go_at_call 81; exact Calls.quiet_of_same ((l01Is_any f k b _ hf.W hf.H (by first | exact HB.out | exact HB.out.drewN _)).mono (fun e w9 h9 => ⟨h9.1.trans (by rw [HC.out]), h9.2.symm⟩))))
    go_wp2_with fail
    go_ret
    exact ⟨rfl, below_drewN _ (Below.refl _ _)⟩
  | true =>
  rw [Bool.true_and]
  have HC := Lib.hid hc
  clear hc
  by_cases hS : 0 < f.S k
  case neg =>
    have d1 : decide (f.S k > 0) = false := decide_eq_false hS
    have d2 : decide (0 < f.S k) = false := decide_eq_false hS
    rw [d2, Bool.false_and, Bool.false_and]
    go_enter Tryd.func66, Tryd.ntmps66
    go_upto_region 1 with (fail)
    go_quiet ((go_at_call 81; exact Calls.quiet_of_same ((l01Is_any f k b _ hf.W hf.H (by first | exact HB.out | exact HB.out.drewN _)).mono (fun e w9 h9 => ⟨h9.1.trans (by rw [HC.out]), h9.2.symm⟩))))
    go_wp2_with fail
    go_ret
    exact ⟨rfl, below_drewN _ (Below.refl _ _)⟩
  have d1 : decide (f.S k > 0) = true := decide_eq_true hS
  have d2 : decide (0 < f.S k) = true := decide_eq_true hS
  rw [d2, Bool.true_and]
  by_cases hG : g k ≤ a 3
  case neg =>
    have d3 : decide (g k ≤ a 3) = false := decide_eq_false hG
    rw [d3, Bool.false_and]
    go_enter Tryd.func66, Tryd.ntmps66
    go_upto_region 1 with (fail)
    go_quiet ((go_at_call 81; exact Calls.quiet_of_same ((l01Is_any f k b _ hf.W hf.H (by first | exact HB.out | exact HB.out.drewN _)).mono (fun e w9 h9 => ⟨h9.1.trans (by rw [HC.out]), h9.2.symm⟩))))
    go_wp2_with fail
    go_ret
    exact ⟨rfl, below_drewN _ (Below.refl _ _)⟩
  have d3 : decide (g k ≤ a 3) = true := decide_eq_true hG
  rw [d3, Bool.true_and]
  go_enter Tryd.func66, Tryd.ntmps66
  go_upto_region 1 with (fail)
  go_quiet (first | (go_at_call 81; exact Calls.quiet_of_same ((l01Is_any f k b _ hf.W hf.H (by first | exact HB.out | exact HB.out.drewN _)).mono (fun e w9 h9 => ⟨h9.1.trans (by rw [HC.out]), h9.2.symm⟩))) | (go_at_call 84; exact Calls.quiet_of_same ((HSQ.out _).mono (fun e w9 h9 => ⟨h9.1, h9.2.symm⟩))))
  go_wp2_with fail
  go_ret
  exact ⟨rfl, below_drewN _ (Below.refl _ _)⟩
/-- The code of a field, fears and a flock. -/
def ffOk (f : Fd) (g a : Nat → Int) : Bool := okFears f g && flockOk f a
def ffCode (f : Fd) (g a : Nat → Int) : Int := if ffOk f g a then 0 else 1
theorem ff_okF {f : Fd} {g a : Nat → Int} (h : ffOk f g a = true) : okF f = true ∧ flockOk f a = true ∧ okFears f g = true := by
  unfold ffOk at h
  simp only [Bool.and_eq_true] at h
  refine ⟨?_, h.2, h.1⟩
  have h1 := h.1
  unfold okFears at h1
  simp only [Bool.and_eq_true] at h1
  exact h1.1
theorem flock_tree {f : Fd} {a : Nat → Int} (h : flockOk f a = true) : 0 ≤ a 0 ∧ a 0 ≤ 99 := by
  unfold flockOk treeAt at h
  simp only [Bool.and_eq_true] at h
  obtain ⟨k, hk, e⟩ := cell_nat h.2.1
  omega
set_option maxRecDepth 100000 in
theorem l02Asked_any (f : Fd) (hf : f.Wf) (g : Nat → Int) (hg : Wf16 g) (a : Nat → Int) (ha : WfR a) (b c d o : Nat) (w : World) (B : Blk w b (fcells f) 30) (G : Blk w c (acells .i16 100 g) 36) (H : FlkAt w d o a) :
    Calls Tryd.prog 38 #[.pointer (some ⟨b, 0, none⟩), .pointer (some ⟨c, 0, none⟩), .pointer (some ⟨d, o, none⟩)] w fun e w' => e = .returned (.int .i64 (ffCode f g a)) ∧ w = w' := by
  have HB := Lib.hid B
  have HG := Lib.hid G
  have HF := Lib.hid H
  clear B G H
  unfold ffCode ffOk
  cases h1 : okFears f g with
  | false =>
    rw [Bool.false_and, if_neg (by decide)]
    go_enter Tryd.func38, Tryd.ntmps38
    go_wp2_with (go_at_call 64; refine (l02Fears_any f hf g hg b c _ HB.out HG.out).mono ?_; rintro e w1 ⟨rfl, rfl⟩; rw [h1])
    go_ret
    exact ⟨rfl, rfl⟩
  | true =>
    rw [Bool.true_and]
    have H1 := Lib.hid h1
    clear h1
    cases h2 : flockOk f a with
    | false =>
      rw [if_neg (by decide)]
      go_enter Tryd.func38, Tryd.ntmps38
      go_wp2_with (first
        | (go_at_call 64; refine (l02Fears_any f hf g hg b c _ HB.out HG.out).mono ?_; rintro e w1 ⟨rfl, rfl⟩; rw [H1.out])
        | (go_at_call 65; refine (l02Flock_any f hf a ha b d o _ HB.out HF.out).mono ?_; rintro e w1 ⟨rfl, rfl⟩; rw [h2]))
      go_ret
      exact ⟨rfl, rfl⟩
    | true =>
      rw [if_pos rfl]
      go_enter Tryd.func38, Tryd.ntmps38
      go_wp2_with (first
        | (go_at_call 64; refine (l02Fears_any f hf g hg b c _ HB.out HG.out).mono ?_; rintro e w1 ⟨rfl, rfl⟩; rw [H1.out])
        | (go_at_call 65; refine (l02Flock_any f hf a ha b d o _ HB.out HF.out).mono ?_; rintro e w1 ⟨rfl, rfl⟩; rw [h2]))
      go_ret
      exact ⟨rfl, rfl⟩
def cfVal (f : Fd) (g a : Nat → Int) : Nat → Int := if ffOk f g a then wantSet f (wldQ f g a) 100 else fun _ => 0
end Go.Proofs.YtaioflkonpommaaDoor
