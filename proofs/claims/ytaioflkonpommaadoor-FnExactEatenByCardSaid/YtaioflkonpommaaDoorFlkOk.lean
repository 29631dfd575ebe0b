/-
  The model's validity of flocks.
-/
import Derived.Test.YtaioflkonpommaaDoorFlkEq
import Derived.Test.YtaioflkonpommaaDoorCoreA
import Derived.RangeFuncNested
import Derived.OpenShut
namespace Go.Proofs.YtaioflkonpommaaDoor
open Go Go.RowKit Go.WideShapes Go.ChangeShapes

/-- A flock's numbers, but for its tree, are as told. -/
def plainOk (a : Nat → Int) : Bool := inB (a 1) 0 200 && inB (a 2) 0 20 && inB (a 3) 0 1000 && inB (a 4) 0 200 && inB (a 5) 0 2
/-- A cell has a tree. -/
def treeAt (f : Fd) (c : Int) : Bool := isCell f c && f.K c.toNat == 3
def flockOk (f : Fd) (a : Nat → Int) : Bool := plainOk a && treeAt f (a 0)
def okFlocks (f : Fd) (n : Nat) (F : Nat → Nat → Int) : Bool := okF f && allTo n (fun i => flockOk f (F i)) && decide (n ≤ 12)
/-- Each number fits its kind. -/
structure WfR (a : Nat → Int) : Prop where
  b0 : -32768 ≤ a 0 ∧ a 0 ≤ 32767
  b1 : -32768 ≤ a 1 ∧ a 1 ≤ 32767
  b2 : -32768 ≤ a 2 ∧ a 2 ≤ 32767
  b3 : -32768 ≤ a 3 ∧ a 3 ≤ 32767
  b4 : -32768 ≤ a 4 ∧ a 4 ≤ 32767
  b5 : -128 ≤ a 5 ∧ a 5 ≤ 127
theorem WfS.row {n : Nat} {F : Nat → Nat → Int} (h : WfS ksFlock n F) {i : Nat} (hi : i < n) : WfR (F i) :=
  ⟨bounds_i16 (h i hi 0 (by decide)), bounds_i16 (h i hi 1 (by decide)), bounds_i16 (h i hi 2 (by decide)), bounds_i16 (h i hi 3 (by decide)), bounds_i16 (h i hi 4 (by decide)), bounds_i8 (h i hi 5 (by decide))⟩
/-- A flock's six cells. -/
structure FlkAt (w : World) (b o : Nat) (a : Nat → Int) : Prop where
  c0 : w.cell? ⟨b, o, none⟩ = some (.int .i16 (a 0))
  c1 : w.cell? ⟨b, o + 1, none⟩ = some (.int .i16 (a 1))
  c2 : w.cell? ⟨b, o + 2, none⟩ = some (.int .i16 (a 2))
  c3 : w.cell? ⟨b, o + 3, none⟩ = some (.int .i16 (a 3))
  c4 : w.cell? ⟨b, o + 4, none⟩ = some (.int .i16 (a 4))
  c5 : w.cell? ⟨b, o + 5, none⟩ = some (.int .i8 (a 5))
theorem flkAt_of {w : World} {b o : Nat} {F : Nat → Nat → Int} {i : Nat} (h : w.rangeAt b o (srow ksFlock F i).toList) : FlkAt w b o (F i) :=
  ⟨h 0 _ rfl, h 1 _ rfl, h 2 _ rfl, h 3 _ rfl, h 4 _ rfl, h 5 _ rfl⟩

set_option maxRecDepth 100000 in
set_option maxHeartbeats 2000000 in
theorem l02Plain_any (a : Nat → Int) (ha : WfR a) (b o : Nat) (w : World) (h : FlkAt w b o a) : Calls Tryd.prog 82 #[.pointer (some ⟨b, o, none⟩)] w fun e w' => e = .returned (.bool (plainOk a)) ∧ w = w' := by
  obtain ⟨c0, c1, c2, c3, c4, c5⟩ := h
  obtain ⟨⟨a01, a02⟩, ⟨a11, a12⟩, ⟨a21, a22⟩, ⟨a31, a32⟩, ⟨a41, a42⟩, ⟨a51, a52⟩⟩ := ha
  cases q1 : inB (a 1) 0 200 with
  | false =>
    have hr : plainOk a = false := by simp [plainOk, q1]
    rw [hr]; clear hr
    go_enter Tryd.func82, Tryd.ntmps82
    go_wp2_with (go_at_call 57; refine (l00In_any _ _ _ _).mono ?_; rintro e w' ⟨rfl, rfl⟩; first | rw [q1])
    go_ret
    exact ⟨rfl, rfl⟩
  | true =>
    cases q2 : inB (a 2) 0 20 with
    | false =>
      have hr : plainOk a = false := by simp [plainOk, q1, q2]
      rw [hr]; clear hr
      go_enter Tryd.func82, Tryd.ntmps82
      go_wp2_with (go_at_call 57; refine (l00In_any _ _ _ _).mono ?_; rintro e w' ⟨rfl, rfl⟩; first | rw [q1] | rw [q2])
      go_ret
      exact ⟨rfl, rfl⟩
    | true =>
      cases q3 : inB (a 3) 0 1000 with
      | false =>
        have hr : plainOk a = false := by simp [plainOk, q1, q2, q3]
        rw [hr]; clear hr
        go_enter Tryd.func82, Tryd.ntmps82
        go_wp2_with (go_at_call 57; refine (l00In_any _ _ _ _).mono ?_; rintro e w' ⟨rfl, rfl⟩; first | rw [q1] | rw [q2] | rw [q3])
        go_ret
        exact ⟨rfl, rfl⟩
      | true =>
        cases q4 : inB (a 4) 0 200 with
        | false =>
          have hr : plainOk a = false := by simp [plainOk, q1, q2, q3, q4]
          rw [hr]; clear hr
          go_enter Tryd.func82, Tryd.ntmps82
          go_wp2_with (go_at_call 57; refine (l00In_any _ _ _ _).mono ?_; rintro e w' ⟨rfl, rfl⟩; first | rw [q1] | rw [q2] | rw [q3] | rw [q4])
          go_ret
          exact ⟨rfl, rfl⟩
        | true =>
          cases q5 : inB (a 5) 0 2 with
          | false =>
            have hr : plainOk a = false := by simp [plainOk, q1, q2, q3, q4, q5]
            rw [hr]; clear hr
            go_enter Tryd.func82, Tryd.ntmps82
            go_wp2_with (go_at_call 57; refine (l00In_any _ _ _ _).mono ?_; rintro e w' ⟨rfl, rfl⟩; first | rw [q1] | rw [q2] | rw [q3] | rw [q4] | rw [q5])
            go_ret
            exact ⟨rfl, rfl⟩
          | true =>
            have hr : plainOk a = true := by simp [plainOk, q1, q2, q3, q4, q5]
            rw [hr]; clear hr
            go_enter Tryd.func82, Tryd.ntmps82
            go_wp2_with (go_at_call 57; refine (l00In_any _ _ _ _).mono ?_; rintro e w' ⟨rfl, rfl⟩; first | rw [q1] | rw [q2] | rw [q3] | rw [q4] | rw [q5])
            go_ret
            exact ⟨rfl, rfl⟩

set_option maxRecDepth 100000 in
theorem l02Tree_any (f : Fd) (hf : f.Wf) (c : Int) (b : Nat) (w : World) (B : Blk w b (fcells f) 30) : Calls Tryd.prog 83 #[.pointer (some ⟨b, 0, none⟩), .int .i64 c] w fun e w' => e = .returned (.bool (treeAt f c)) ∧ w = w' := by
  cases q : isCell f c with
  | false =>
    have hr : treeAt f c = false := by simp [treeAt, q]
    rw [hr]; clear hr
    go_enter Tryd.func83, Tryd.ntmps83
    go_wp2_with (go_at_call 81; refine (l01Is_any f _ b _ hf.W hf.H B).mono ?_; rintro e w' ⟨rfl, rfl⟩; rw [q])
    go_ret
    exact ⟨rfl, rfl⟩
  | true =>
    have hb : 0 ≤ c ∧ c ≤ 99 := by
      simp only [isCell, Bool.and_eq_true, inB_iff] at q; exact q.1.1
    obtain ⟨k, rfl⟩ := Int.eq_ofNat_of_zero_le hb.1
    have hlt : k < 100 := by omega
    have cK := B.cell (fcells_K f k hlt)
    have hr : treeAt f (k : Int) = (f.K k == 3) := by simp [treeAt, q]
    rw [hr]; clear hr
    go_enter Tryd.func83, Tryd.ntmps83
    go_wp2_with (go_at_call 81; refine (l01Is_any f _ b _ hf.W hf.H B).mono ?_; rintro e w' ⟨rfl, rfl⟩; rw [q])
    go_ret
    exact ⟨rfl, rfl⟩

set_option maxRecDepth 100000 in
theorem l02Flock_any (f : Fd) (hf : f.Wf) (a : Nat → Int) (ha : WfR a) (b d o : Nat) (w : World) (B : Blk w b (fcells f) 30) (h : FlkAt w d o a) : Calls Tryd.prog 65 #[.pointer (some ⟨b, 0, none⟩), .pointer (some ⟨d, o, none⟩)] w fun e w' => e = .returned (.bool (flockOk f a)) ∧ w = w' := by
  have c0 := h.c0
  obtain ⟨a01, a02⟩ := ha.b0
  cases q : plainOk a with
  | false =>
    have hr : flockOk f a = false := by simp [flockOk, q]
    rw [hr]; clear hr
    go_enter Tryd.func65, Tryd.ntmps65
    go_wp2_with (go_at_call 82; refine (l02Plain_any a ha d o _ h).mono ?_; rintro e w' ⟨rfl, rfl⟩; rw [q])
    go_ret
    exact ⟨rfl, rfl⟩
  | true =>
    have hr : flockOk f a = treeAt f (a 0) := by simp [flockOk, q]
    rw [hr]; clear hr
    go_enter Tryd.func65, Tryd.ntmps65
    go_wp2_with (first | (go_at_call 82; refine (l02Plain_any a ha d o _ h).mono ?_; rintro e w' ⟨rfl, rfl⟩; rw [q]) | (go_at_call 83; refine (l02Tree_any f hf _ b _ B).mono ?_; rintro e w' ⟨rfl, rfl⟩))
    go_ret
    exact ⟨rfl, rfl⟩

set_option maxRecDepth 100000 in
set_option maxHeartbeats 1000000 in
theorem l02Ok_any (f : Fd) (hf : f.Wf) (n : Nat) (hn : n ≤ 2 ^ 40) (F : Nat → Nat → Int) (hF : WfS ksFlock n F) (b d c : Nat) (w : World) (B : Blk w b (fcells f) 30) (I : InS w d 0 n ksFlock F) :
    Calls Tryd.prog 59 #[.pointer (some ⟨b, 0, none⟩), .slice (some ⟨d, 0, none⟩) n c] w fun e w' => e = .returned (.bool (okFlocks f n F)) ∧ w = w' := by
  have HB := Lib.hid B
  have HI := Lib.hid I
  have HF := Lib.hid hF
  clear B I hF
  cases hok : okF f with
  | false =>
    have hr : okFlocks f n F = false := by simp [okFlocks, hok]
    rw [hr]; clear hr
    go_enter Tryd.func59, Tryd.ntmps59
    go_wp2_with (go_at_call 79; refine (l01Ok_any f hf b _ HB.out).mono ?_; rintro e w' ⟨rfl, rfl⟩; rw [hok])
    go_ret
    exact ⟨rfl, rfl⟩
  | true =>
    have hr : okFlocks f n F = (allTo n (fun i => flockOk f (F i)) && decide (n ≤ 12)) := by simp [okFlocks, hok]
    rw [hr]; clear hr
    go_enter Tryd.func59, Tryd.ntmps59
    go_wp2_with (go_at_call 79; refine (l01Ok_any f hf b _ HB.out).mono ?_; rintro e w' ⟨rfl, rfl⟩; rw [hok])
    go_loop [5] (fun i => ∃ k : Nat, k ≤ n ∧ i = .int .i64 k ∧ Hid (∀ i, i < k → flockOk f (F i) = true)) (fun i => n - (intOf i).toNat)
    case atStart => exact ⟨0, by omega, rfl, Lib.hid (fun i hi => by omega)⟩
    case round =>
      obtain ⟨k, hk, rfl, hall⟩ := hrel
      by_cases hlt : k < n
      · have hc : Hid (FlkAt w d (k * 6) (F k)) := Lib.hid (flkAt_of (by have h := HI.out k hlt; rw [Nat.zero_add] at h; exact h))
        have hr : Hid (WfR (F k)) := Lib.hid (HF.out.row hlt)
        cases q : flockOk f (F k) with
        | true =>
          go_wp2_with (go_at_call 65; refine (l02Flock_any f hf (F k) hr.out b d (k * 6) _ HB.out hc.out).mono ?_; rintro e w' ⟨rfl, rfl⟩; rw [q])
          go_round
          case rel => exact ⟨k + 1, by omega, by go_num, Lib.hid (upto_succ hall.out q)⟩
          case measure => simp [intOf]; omega
        | false =>
          have hx : Hid (allTo n (fun i => flockOk f (F i)) = false) := Lib.hid (allTo_false hlt q)
          go_wp2_with (go_at_call 65; refine (l02Flock_any f hf (F k) hr.out b d (k * 6) _ HB.out hc.out).mono ?_; rintro e w' ⟨rfl, rfl⟩; rw [q])
          go_ret
          exact ⟨by rw [hx.out]; rfl, rfl⟩
      · obtain rfl : k = n := by omega
        have hx : Hid (allTo k (fun i => flockOk f (F i)) = true) := Lib.hid (allTo_iff.2 hall.out)
        by_cases h12 : k ≤ 12
        · go_wp2_with fail
          go_ret
          exact ⟨by first | (rw [hx.out]; simp; omega) | (simp; omega), rfl⟩
        · go_wp2_with fail
          go_ret
          exact ⟨by first | (rw [hx.out]; simp; omega) | (simp; omega), rfl⟩

end Go.Proofs.YtaioflkonpommaaDoor
