/-
  Beats that are joined: the program's.
-/
import Derived.Test.YtdjbaajcgipebaaDoorJoin
namespace Go.Proofs.YtdjbaajcgipebaaDoor
open Go Go.RowKit

theorem cut_any (b o n c fr to' : Nat) (h1 : fr < to') (h2 : to' ≤ c) (hc : c ≤ maxLen) (w : World) : Calls Tryd.prog 56 #[.slice (some ⟨b, o, none⟩) n c, .int .i64 fr, .int .i64 to'] w fun e w' => e = .returned (.slice (some ⟨b, o + fr, none⟩) (to' - fr) (to' - fr)) ∧ w = w' := by
  unfold maxLen at hc
  have g1 : (fr : Int) ≤ to' := by omega
  have g2 : (to' : Int) ≤ c := by omega
  have g3 : ¬ to' = fr := by omega
  go_enter Tryd.func56, Tryd.ntmps56
  go_wp2_with fail
  go_ret
  exact ⟨rfl, rfl⟩
theorem cut_all (b n c : Nat) (h1 : 0 < n) (h2 : n ≤ c) (hc : c ≤ maxLen) (w : World) : Calls Tryd.prog 56 #[.slice (some ⟨b, 0, none⟩) n c, .int .i64 0, .int .i64 n] w fun e w' => e = .returned (.slice (some ⟨b, 0, none⟩) n n) ∧ w = w' :=
  cut_any b 0 n c 0 n h1 h2 hc w
set_option maxRecDepth 100000 in
set_option maxHeartbeats 2000000 in
/-- A beat, and another one behind it: always a copy. -/
theorem then_any (n : Nat) (hn1 : 1 ≤ n) (hn2 : n ≤ 1000) (g : Nat → Int) (m : Nat) (hm1 : 1 ≤ m) (hm2 : m ≤ 1000) (h : Nat → Int) (b c d c2 : Nat) (hnc : n ≤ c) (hc : c ≤ maxLen) (w : World) (I : InH w b 0 n g) (I2 : InH w d 0 m h) :
    Calls Tryd.prog 48 #[.slice (some ⟨b, 0, none⟩) n c, .slice (some ⟨d, 0, none⟩) m c2] w fun e w' => ∃ v, e = .returned v ∧ w'.ownsRow w.heap.size 24 1 v (n + m) ((nums g n).map (Value.int .i16) ++ (nums h m).map (Value.int .i16)) ∧ Below w.heap.size w w' := by
  have HI := Lib.hid I
  have HI2 := Lib.hid I2
  clear I I2
  obtain ⟨i0, hi, hz0, hz1, hz2⟩ := info_parts Hinfo
  go_enter Tryd.func48, Tryd.ntmps48
  go_wp2_with (first
    | (go_at_call 44; refine (length_any _ n c _).mono ?_; rintro e w' ⟨rfl, rfl⟩)
    | (go_at_call 56; refine (cut_all b n c hn1 hnc hc _).mono ?_; rintro e w' ⟨rfl, rfl⟩)
    | (at_builtin; refine wpList_append_grows _ rfl _ _ 32 rfl 24 i0 (.int .i16 0) 1 2 Tryd.underlying32 hi hz0 hz1 hz2 rfl (by decide) (some ⟨b, 0, none⟩) n n ((nums g n).map (Value.int .i16)) rfl (fun h => by cases h) (by rw [List.length_map, nums_length]; omega) (fun b' hb' => by cases hb'; exact Hnews HI.out) ⟨d, 0, none⟩ m c2 ((nums h m).map (Value.int .i16)) rfl (by rw [List.length_map, nums_length]; omega) (Hnews HI2.out) (Hone _) (by omega) (by unfold maxLen; omega) (by omega) ?_; intro v1 w1 ho1 hg1; have O1 := Lib.hid ho1; have B1 := Lib.hid ((Below.refl w.heap.size w).grown hg1 (Nat.le_refl _) (fun k e => by cases e)); clear ho1 hg1))
  go_ret
  exact ⟨_, rfl, O1.out, B1.out⟩
def joinErr (A : Nat → Addr) (c : Int) : Value := if c = 0 then .nilIface else errVal (A c.toNat)
theorem beatsOk_two (f : Fd) (n : Nat) (g : Nat → Int) (m : Nat) (h : Nat → Int) : beatsOk f 2 (fun i => if i = 0 then n else m) (fun i => if i = 0 then g else h) = joinOk f n g m h := by
  unfold beatsOk joinOk
  rw [Bool.and_assoc]
  congr 1
  rw [Bool.eq_iff_iff, allTo_iff, Bool.and_eq_true]
  constructor
  · intro k; exact ⟨k 0 (by omega), k 1 (by omega)⟩
  · rintro ⟨k1, k2⟩ i hi
    match i, hi with
    | 0, _ => exact k1
    | 1, _ => exact k2
theorem btsAt_two {w : World} {bb b n c d m c2 : Nat} {g h : Nat → Int} {t : TypeId} (hB : Blk w bb #[.slice (some ⟨b, 0, none⟩) n c, .slice (some ⟨d, 0, none⟩) m c2] t) (I : InH w b 0 n g) (I2 : InH w d 0 m h) (hn : n ≤ 2 ^ 40) (hg : WfH n g) (hm : m ≤ 2 ^ 40) (hh : WfH m h) :
    BtsAt w bb 2 (fun i => if i = 0 then b else d) (fun i => if i = 0 then n else m) (fun i => if i = 0 then c else c2) (fun i => if i = 0 then g else h) := by
  refine ⟨fun i hi => ?_, fun i hi => ?_, fun i hi => ?_, fun i hi => ?_⟩
  all_goals (match i, hi with | 0, _ => ?_ | 1, _ => ?_)
  · exact hB.cell (i := 0) rfl
  · exact hB.cell (i := 1) rfl
  · exact I
  · exact I2
  · exact hn
  · exact hm
  · exact hg
  · exact hh
set_option maxRecDepth 100000 in
set_option maxHeartbeats 4000000 in
theorem checkJoining_any (f : Fd) (hf : f.Wf) (n : Nat) (hn : n ≤ 2 ^ 40) (g : Nat → Int) (hg : WfH n g) (m : Nat) (hm : m ≤ 2 ^ 40) (h : Nat → Int) (hh : WfH m h) (b d : Nat) (A : Nat → Addr) (w : World) (I : InH w b 0 n g) (I2 : InH w d 0 m h) (S0 : Sents w A) :
    Calls Tryd.prog 47 #[.agg (fcells f), .slice (some ⟨b, 0, none⟩) n n, .slice (some ⟨d, 0, none⟩) m m] w fun e w' => e = .returned (joinErr A (joinCode f n g m h)) ∧ Below w.heap.size w w' := by
  have S : Hid (Sents w A) := Lib.hid S0
  have HI := Lib.hid I
  have HI2 := Lib.hid I2
  clear S0 I I2
  have hif := isIfaceErr
  cases hq : joinOk f n g m h with
  | false =>
    have hc : Hid (beatsOk f 2 (fun i => if i = 0 then n else m) (fun i => if i = 0 then g else h) = false) := Lib.hid (by rw [beatsOk_two, hq])
    rw [joinCode_no hq]
    clear hq
    go_enter Tryd.func47, Tryd.ntmps47
    go_upto_region 1 with (fail)
    obtain ⟨W, hW, M⟩ := open1 w (fcells f) 30
    rw [hW]; clear hW
    go_wp2_with (first
      | (refine wpList_load_part rfl 30 _ rfl w.heap.size 0 rfl (fcells f) _ (M.at 0 rfl).whole Tryd.underlying30 rfl (by rw [fcells_size]; exact sizeFd) ?_)
      | (go_at_call 40; refine (checkBeats_any f hf _ 2 _ (by omega) _ _ _ _ A _ (btsAt_two (Blk.new _ _ _) (HI.out.later (M.alloc _ _).below) (HI2.out.later (M.alloc _ _).below) hn hg hm hh) (S.out.later (M.alloc _ _).below).one).mono ?_; rintro e W2 ⟨rfl, hb⟩; rw [hc.out, errIf_false]; have M2 := (M.alloc _ _).call hb; clear hb))
    go_ret
    exact ⟨rfl, M2.below⟩
  | true =>
    have hc : Hid (beatsOk f 2 (fun i => if i = 0 then n else m) (fun i => if i = 0 then g else h) = true) := Lib.hid (by rw [beatsOk_two, hq])
    have HQ := Lib.hid hq
    obtain ⟨j1, j2, j3⟩ := joinOk_iff hq
    obtain ⟨n1, n2, _, _⟩ := beatOk_iff j2
    obtain ⟨m1, m2, _, _⟩ := beatOk_iff j3
    clear j1 j2 j3 hq
    go_enter Tryd.func47, Tryd.ntmps47
    go_upto_region 1 with (fail)
    obtain ⟨W, hW, M⟩ := open1 w (fcells f) 30
    rw [hW]; clear hW
    go_upto_region 4 with (first
      | (refine wpList_load_part rfl 30 _ rfl w.heap.size 0 rfl (fcells f) _ (M.at 0 rfl).whole Tryd.underlying30 rfl (by rw [fcells_size]; exact sizeFd) ?_)
      | (go_at_call 40; refine (checkBeats_any f hf _ 2 _ (by omega) _ _ _ _ A _ (btsAt_two (Blk.new _ _ _) (HI.out.later (M.alloc _ _).below) (HI2.out.later (M.alloc _ _).below) hn hg hm hh) (S.out.later (M.alloc _ _).below).one).mono ?_; rintro e W2 ⟨rfl, hb⟩; rw [hc.out, errIf_true]; have M2 := (M.alloc _ _).call hb; clear hb))
    have c0 := (HI.out.later M2.below) 0 (by omega)
    have d0 := (HI2.out.later M2.below) 0 (by omega)
    rw [Nat.zero_add] at c0 d0
    obtain ⟨x, hx⟩ : ∃ x, g 0 = x := ⟨_, rfl⟩
    obtain ⟨y, hy⟩ : ∃ y, h 0 = y := ⟨_, rfl⟩
    rw [hx] at c0
    rw [hy] at d0
    have HX := Lib.hid hx
    have HY := Lib.hid hy
    clear hx hy
    go_quiet (fail)
    clear c0 d0
    rename_i nq
    have B3 := Lib.hid (below_drewN nq M2.below)
    generalize W2.drewN nq = W3 at B3 ⊢
    by_cases hxy : x = y
    · have q1 : (x != y) = false := by simpa using hxy
      have e0 : Hid (g 0 = h 0) := Lib.hid (by rw [HX.out, HY.out, hxy])
      clear hxy
      obtain ⟨q, hq⟩ : ∃ q, inB ((n : Int) + (m : Int)) 1 40 = q := ⟨_, rfl⟩
      have HL := Lib.hid hq
      clear hq
      have ok1 : True := trivial
      have ok2 : True := trivial
      cases q with
      | true =>
        have hl := inB_iff.1 HL.out
        have he := Lib.hid (joinCode_ok HQ.out e0.out (show n + m ≤ 40 by omega))
        clear hl
        go_wp2_with (first
          | (clear ok1; go_at_call 44; refine (length_any _ n n _).mono ?_; rintro e w' ⟨rfl, rfl⟩)
          | (clear ok2; go_at_call 44; refine (length_any _ m m _).mono ?_; rintro e w' ⟨rfl, rfl⟩)
          | (go_at_call 70; refine (isLength_any _ _).mono ?_; rintro e w' ⟨rfl, rfl⟩; rw [HL.out]))
        go_ret
        exact ⟨by rw [he.out]; rfl, B3.out⟩
      | false =>
        have hl : ¬ n + m ≤ 40 := fun hl => by rw [inB_iff.2 (by omega)] at HL; exact absurd HL.out (by decide)
        have he := Lib.hid (joinCode_long HQ.out e0.out hl)
        have v3 := (S.out.later B3.out).v3
        go_wp2_with (first
          | (clear ok1; go_at_call 44; refine (length_any _ n n _).mono ?_; rintro e w' ⟨rfl, rfl⟩)
          | (clear ok2; go_at_call 44; refine (length_any _ m m _).mono ?_; rintro e w' ⟨rfl, rfl⟩)
          | (go_at_call 70; refine (isLength_any _ _).mono ?_; rintro e w' ⟨rfl, rfl⟩; rw [HL.out]))
        go_ret
        exact ⟨by rw [he.out]; rfl, B3.out⟩
    · have q1 : (x != y) = true := by simpa using hxy
      have e0 : Hid (¬ g 0 = h 0) := Lib.hid (by rw [HX.out, HY.out]; exact hxy)
      clear hxy
      have he := Lib.hid (joinCode_ne HQ.out e0.out)
      have v4 := (S.out.later B3.out).v4
      go_wp2_with fail
      go_ret
      exact ⟨by rw [he.out]; rfl, B3.out⟩
theorem joinCode_cases (f : Fd) (n : Nat) (g : Nat → Int) (m : Nat) (h : Nat → Int) : joinCode f n g m h = 0 ∨ ∃ k : Nat, joinCode f n g m h = (k : Int) ∧ 1 ≤ k ∧ k ≤ 8 := by
  unfold joinCode
  split
  · split
    · split
      · exact .inl rfl
      · exact .inr ⟨3, rfl, by omega, by omega⟩
    · exact .inr ⟨4, rfl, by omega, by omega⟩
  · exact .inr ⟨1, rfl, by omega, by omega⟩
theorem joinCode_0 {f : Fd} {n m : Nat} {g h : Nat → Int} (e : joinCode f n g m h = 0) : joinOk f n g m h = true := by
  cases q : joinOk f n g m h with
  | true => rfl
  | false => rw [joinCode_no q] at e; exact absurd e (by decide)
set_option maxRecDepth 100000 in
set_option maxHeartbeats 4000000 in
theorem implJoinBeats (f : Fd) (hf : f.Wf) (n : Nat) (hn : n ≤ 2 ^ 40) (g : Nat → Int) (hg : WfH n g) (m : Nat) (hm : m ≤ 2 ^ 40) (h : Nat → Int) (hh : WfH m h) (b d : Nat) (A : Nat → Addr) (w : World) (I : InH w b 0 n g) (I2 : InH w d 0 m h) (S0 : Sents w A) :
    Calls Tryd.prog 23 #[.agg (fcells f), .slice (some ⟨b, 0, none⟩) n n, .slice (some ⟨d, 0, none⟩) m m] w (JoinP f n g m h w) := by
  have S : Hid (Sents w A) := Lib.hid S0
  have HI := Lib.hid I
  have HI2 := Lib.hid I2
  clear S0 I I2
  have hif := isIfaceErr
  rcases joinCode_cases f n g m h with hc | ⟨k, hc, k1, k8⟩
  · obtain ⟨j1, j2, j3⟩ := joinOk_iff (joinCode_0 hc)
    obtain ⟨n1, n2, _, _⟩ := beatOk_iff j2
    obtain ⟨m1, m2, _, _⟩ := beatOk_iff j3
    clear j1 j2 j3
    have he : Hid (joinErr A (joinCode f n g m h) = .nilIface) := Lib.hid (by rw [hc]; rfl)
    have HC := Lib.hid hc
    clear hc
    go_enter Tryd.func23, Tryd.ntmps23
    go_upto_region 1 with (fail)
    obtain ⟨W, hW, M⟩ := open1 w (fcells f) 30
    rw [hW]; clear hW
    go_wp2_with (first
      | (refine wpList_load_part rfl 30 _ rfl w.heap.size 0 rfl (fcells f) _ (M.at 0 rfl).whole Tryd.underlying30 rfl (by rw [fcells_size]; exact sizeFd) ?_)
      | (go_at_call 47; refine (checkJoining_any f hf n hn g hg m hm h hh b d A _ (HI.out.later M.below) (HI2.out.later M.below) (S.out.later M.below)).mono ?_; rintro e W2 ⟨rfl, hb⟩; rw [he.out]; have M2 := M.call hb; clear hb M)
      | (go_at_call 48; refine (then_any n n1 (by omega) g m m1 (by omega) h b n d m (Nat.le_refl _) (by unfold maxLen; omega) _ (HI.out.later M2.below) (HI2.out.later M2.below)).mono ?_; rintro e W3 ⟨v, rfl, ho, hb⟩; have O3 := Lib.hid ho; have M3 := M2.call hb; have s2 := M2.below.size; clear ho hb M2))
    go_ret2
    exact joinP_ok HC.out _ s2 O3.out M3.below
  · have he : Hid (joinErr A (joinCode f n g m h) = errVal (A k)) := Lib.hid (by rw [hc]; unfold joinErr; rw [if_neg (by omega), Int.toNat_natCast])
    have HC := Lib.hid hc
    clear hc
    go_enter Tryd.func23, Tryd.ntmps23
    go_upto_region 1 with (fail)
    obtain ⟨W, hW, M⟩ := open1 w (fcells f) 30
    rw [hW]; clear hW
    go_wp2_with (first
      | (refine wpList_load_part rfl 30 _ rfl w.heap.size 0 rfl (fcells f) _ (M.at 0 rfl).whole Tryd.underlying30 rfl (by rw [fcells_size]; exact sizeFd) ?_)
      | (go_at_call 47; refine (checkJoining_any f hf n hn g hg m hm h hh b d A _ (HI.out.later M.below) (HI2.out.later M.below) (S.out.later M.below)).mono ?_; rintro e W2 ⟨rfl, hb⟩; rw [he.out]; have M2 := M.call hb; clear hb M)
      | (go_at_call 43; refine (codeOf_err A k k1 k8 _ (S.out.later M2.below)).mono ?_; rintro e W3 ⟨rfl, rfl⟩))
    go_ret2
    exact joinP_bad HC.out (by omega) _ _ M2.below
end Go.Proofs.YtdjbaajcgipebaaDoor
