/-
  Beats that are joined: the model's, the program's.
-/
import Derived.Test.YtdjbaajcgipebaaDoorBtC
import Derived.Test.YtdjbaajcgipebaaDoorLstH
import Derived.ArgAppend
import Derived.Outline
namespace Go.Proofs.YtdjbaajcgipebaaDoor
open Go Go.RowKit

def joinOk (f : Fd) (n : Nat) (g : Nat → Int) (m : Nat) (h : Nat → Int) : Bool := okF f && beatOk f n g && beatOk f m h
def joinCode (f : Fd) (n : Nat) (g : Nat → Int) (m : Nat) (h : Nat → Int) : Int := if joinOk f n g m h then (if g 0 = h 0 then (if n + m ≤ 40 then 0 else 3) else 4) else 1
def joinN (f : Fd) (n : Nat) (g : Nat → Int) (m : Nat) (h : Nat → Int) : Nat := if joinCode f n g m h = 0 then n + m else 0
def joinG (n : Nat) (g h : Nat → Int) (i : Nat) : Int := if i < n then g i else h (i - n)
theorem joinCode_no {f : Fd} {n m : Nat} {g h : Nat → Int} (q : joinOk f n g m h = false) : joinCode f n g m h = 1 := by unfold joinCode; rw [q]; rfl
theorem joinCode_ne {f : Fd} {n m : Nat} {g h : Nat → Int} (q : joinOk f n g m h = true) (e : ¬ g 0 = h 0) : joinCode f n g m h = 4 := by unfold joinCode; rw [q, if_pos rfl, if_neg e]
theorem joinCode_long {f : Fd} {n m : Nat} {g h : Nat → Int} (q : joinOk f n g m h = true) (e : g 0 = h 0) (hl : ¬ n + m ≤ 40) : joinCode f n g m h = 3 := by unfold joinCode; rw [q, if_pos rfl, if_pos e, if_neg hl]
theorem joinCode_ok {f : Fd} {n m : Nat} {g h : Nat → Int} (q : joinOk f n g m h = true) (e : g 0 = h 0) (hl : n + m ≤ 40) : joinCode f n g m h = 0 := by unfold joinCode; rw [q, if_pos rfl, if_pos e, if_pos hl]
theorem joinN_of {f : Fd} {n m : Nat} {g h : Nat → Int} {c : Int} (e : joinCode f n g m h = c) : joinN f n g m h = if c = 0 then n + m else 0 := by unfold joinN; rw [e]
theorem joinOk_iff {f : Fd} {n m : Nat} {g h : Nat → Int} (q : joinOk f n g m h = true) : okF f = true ∧ beatOk f n g = true ∧ beatOk f m h = true := by
  unfold joinOk at q; simp only [Bool.and_eq_true] at q; exact ⟨q.1.1, q.1.2, q.2⟩
theorem joinN_le (f : Fd) (n : Nat) (g : Nat → Int) (m : Nat) (h : Nat → Int) : joinN f n g m h ≤ 40 := by
  unfold joinN
  split
  · rename_i e
    unfold joinCode at e
    split at e
    · split at e
      · split at e
        · omega
        · omega
      · omega
    · omega
  · omega
/-- What comes of joining. -/
def JoinP (f : Fd) (n : Nat) (g : Nat → Int) (m : Nat) (h : Nat → Int) (w : World) (e : Ending) (w' : World) : Prop :=
  ∃ p c, e = .returned (.tuple #[.slice p (joinN f n g m h) c, .int .i64 (joinCode f n g m h)]) ∧ HV w.heap.size w'.heap.size w' p (joinN f n g m h) (joinG n g h) ∧ HW w.heap.size w'.heap.size w' p (joinN f n g m h) ∧ Below w.heap.size w w'
theorem joinP_bad {f : Fd} {n m : Nat} {g h : Nat → Int} {w w' : World} {c0 : Int} (hc : joinCode f n g m h = c0) (hne : c0 ≠ 0) (p : Option Addr) (c : Nat) (hb : Below w.heap.size w w') : JoinP f n g m h w (.returned (.tuple #[.slice p 0 c, .int .i64 c0])) w' := by
  have hN : joinN f n g m h = 0 := by rw [joinN_of hc, if_neg hne]
  exact ⟨p, c, by rw [hN, hc], .inl hN, .inl hN, hb⟩
theorem joinP_ok {f : Fd} {n m : Nat} {g h : Nat → Int} {w w' : World} {v : Value} (hc : joinCode f n g m h = 0) (lo : Nat) (hlo : w.heap.size ≤ lo) (ho : w'.ownsRow lo 24 1 v (n + m) ((nums g n).map (Value.int .i16) ++ (nums h m).map (Value.int .i16))) (hb : Below w.heap.size w w') : JoinP f n g m h w (.returned (.tuple #[v, .int .i64 0])) w' := by
  have hN : joinN f n g m h = n + m := by rw [joinN_of hc, if_pos rfl]
  rw [← List.map_append, nums_append] at ho
  obtain ⟨p, c, rfl, V, X⟩ := Hown (nums_length _ _) ho
  refine ⟨p, c, by rw [hN, hc], ?_, ?_, hb⟩
  · rw [hN]; exact (V.congr (fun i hi => by rw [nums_getD _ _ _ hi]; rfl)).mono hlo (Nat.le_refl _)
  · rw [hN]; exact X.mono hlo (Nat.le_refl _)
set_option maxRecDepth 100000 in
set_option maxHeartbeats 4000000 in
theorem specJoinBeats (f : Fd) (hf : f.Wf) (n : Nat) (hn : n ≤ 2 ^ 40) (g : Nat → Int) (hg : WfH n g) (m : Nat) (hm : m ≤ 2 ^ 40) (h : Nat → Int) (hh : WfH m h) (b c d c2 : Nat) (w : World) (I : InH w b 0 n g) (I2 : InH w d 0 m h) :
    Calls Tryd.prog 22 #[.agg (fcells f), .slice (some ⟨b, 0, none⟩) n c, .slice (some ⟨d, 0, none⟩) m c2] w (JoinP f n g m h w) := by
  have HI := Lib.hid I
  have HI2 := Lib.hid I2
  have HG := Lib.hid hg
  have HH := Lib.hid hh
  clear I I2 hg hh
  obtain ⟨a1, ha1⟩ : ∃ x, (okF f && beatOk f n g) = x := ⟨_, rfl⟩
  obtain ⟨a2, ha2⟩ : ∃ x, (okF f && beatOk f m h) = x := ⟨_, rfl⟩
  have A1 := Lib.hid ha1
  have A2 := Lib.hid ha2
  have hjo : Hid (joinOk f n g m h = (a1 && a2)) := Lib.hid (by rw [← ha1, ← ha2]; unfold joinOk; cases okF f <;> simp)
  clear ha1 ha2
  obtain ⟨i0, hi, hz0, hz1, hz2⟩ := info_parts Hinfo
  have ok1 : True := trivial
  have ok2 : True := trivial
  go_enter Tryd.func22, Tryd.ntmps22
  go_upto_region 1 with (fail)
  obtain ⟨W, hW, M⟩ := open1 w (fcells f) 30
  rw [hW]; clear hW
  cases a1 with
  | false =>
    go_wp2_with (go_at_call 37; refine (l05Ok_any f hf n hn g HG.out _ b c _ (M.at 0 rfl) (HI.out.later M.below)).mono ?_; rintro e w' ⟨rfl, rfl⟩; rw [A1.out])
    go_ret2
    exact joinP_bad (joinCode_no hjo.out) (by decide) _ _ (M.alloc _ _).below
  | true =>
  cases a2 with
  | false =>
    go_wp2_with (first
      | (clear ok1; go_at_call 37; refine (l05Ok_any f hf n hn g HG.out _ b c _ (M.at 0 rfl) (HI.out.later M.below)).mono ?_; rintro e w' ⟨rfl, rfl⟩; rw [A1.out])
      | (clear ok2; go_at_call 37; refine (l05Ok_any f hf m hm h HH.out _ d c2 _ (M.at 0 rfl) (HI2.out.later M.below)).mono ?_; rintro e w' ⟨rfl, rfl⟩; rw [A2.out]))
    go_ret2
    exact joinP_bad (joinCode_no hjo.out) (by decide) _ _ (M.alloc _ _).below
  | true =>
    obtain ⟨j1, j2, j3⟩ := joinOk_iff hjo.out
    obtain ⟨n1, n2, _, _⟩ := beatOk_iff j2
    obtain ⟨m1, m2, _, _⟩ := beatOk_iff j3
    clear j1 j2 j3
    go_upto_region 3 with (first
      | (clear ok1; go_at_call 37; refine (l05Ok_any f hf n hn g HG.out _ b c _ (M.at 0 rfl) (HI.out.later M.below)).mono ?_; rintro e w' ⟨rfl, rfl⟩; rw [A1.out])
      | (clear ok2; go_at_call 37; refine (l05Ok_any f hf m hm h HH.out _ d c2 _ (M.at 0 rfl) (HI2.out.later M.below)).mono ?_; rintro e w' ⟨rfl, rfl⟩; rw [A2.out]))
    have c0 := (HI.out.later M.below) 0 (by omega)
    have d0 := (HI2.out.later M.below) 0 (by omega)
    rw [Nat.zero_add] at c0 d0
    obtain ⟨x, hx⟩ : ∃ x, g 0 = x := ⟨_, rfl⟩
    obtain ⟨y, hy⟩ : ∃ y, h 0 = y := ⟨_, rfl⟩
    rw [hx] at c0
    rw [hy] at d0
    have HX := Lib.hid hx
    have HY := Lib.hid hy
    clear hx hy
    go_quiet (fail)
    clear c0 d0
    rename_i nq
    obtain ⟨W2, hW2⟩ : ∃ W2, W.drewN nq = W2 := ⟨_, rfl⟩
    have M2 : Mem w W2 [⟨w.heap.size, fcells f, 30⟩] := by rw [← hW2]; exact M.drewN nq
    rw [hW2]
    clear hW2 M
    by_cases hxy : x = y
    · have q1 : (x != y) = false := by simpa using hxy
      have e0 : Hid (g 0 = h 0) := Lib.hid (by rw [HX.out, HY.out, hxy])
      clear hxy
      by_cases hl : n + m ≤ 40
      · have q2 : decide (40 < (n : Int) + (m : Int)) = false := decide_eq_false (by omega)
        have s2 := M2.below.size
        have ok3 : True := trivial
        have ok4 : True := trivial
        have R0 : (W2.alloc (.cells #[] 24)).ownsRow W2.heap.size 24 1 (.slice (some ⟨W2.heap.size, 0, none⟩) 0 0) 0 [] := World.ownsRow_made W2 #[] 0 (Nat.le_refl _) (Nat.zero_le _) (by simp)
        have HR0 := Lib.hid R0
        have C0 := Lib.hid ((Below.refl W2.heap.size W2).alloc (Nat.le_refl _) (.cells #[] 24))
        clear R0
        go_wp2_with (first
          | (clear ok3; at_builtin; refine wpList_append_own _ rfl _ _ 32 rfl W2.heap.size 24 i0 (.int .i16 0) 1 2 Tryd.underlying32 hi hz0 hz1 hz2 rfl (by decide) _ _ _ rfl HR0.out ⟨b, 0, none⟩ n c ((nums g n).map (Value.int .i16)) rfl (by rw [List.length_map, nums_length]; omega) (Hnews ((HI.out.later M2.below).later C0.out)) (Hone _) (by unfold maxLen; omega) (by omega) (by simp) ?_; intro v1 w1 ho1 hg1 _; have C1 := Lib.hid (below_own C0.out C0.out.size HR0.out hg1); simp only [Nat.zero_add, List.nil_append] at ho1; have O1 := Lib.hid ho1; clear ho1 hg1)
          | (clear ok4; at_builtin; refine wpList_append_own _ rfl _ _ 32 rfl W2.heap.size 24 i0 (.int .i16 0) 1 2 Tryd.underlying32 hi hz0 hz1 hz2 rfl (by decide) _ _ _ rfl O1.out ⟨d, 0, none⟩ m c2 ((nums h m).map (Value.int .i16)) rfl (by rw [List.length_map, nums_length]; omega) (Hnews ((HI2.out.later M2.below).later C1.out)) (Hone _) (by unfold maxLen; omega) (by omega) C1.out.size ?_; intro v2 w2 ho2 hg2 _; have C2 := Lib.hid (below_own C1.out C1.out.size O1.out hg2); have O2 := Lib.hid ho2; clear ho2 hg2))
        go_ret2
        exact joinP_ok (joinCode_ok hjo.out e0.out hl) _ s2 O2.out (M2.below.trans (C2.out.mono s2))
      · go_wp2_with fail
        go_ret2
        exact joinP_bad (joinCode_long hjo.out e0.out hl) (by decide) _ _ (M2.alloc _ _).below
    · have q1 : (x != y) = true := by simpa using hxy
      have e0 : Hid (¬ g 0 = h 0) := Lib.hid (by rw [HX.out, HY.out]; exact hxy)
      clear hxy
      go_wp2_with fail
      go_ret2
      exact joinP_bad (joinCode_ne hjo.out e0.out) (by decide) _ _ (M2.alloc _ _).below
end Go.Proofs.YtdjbaajcgipebaaDoor
