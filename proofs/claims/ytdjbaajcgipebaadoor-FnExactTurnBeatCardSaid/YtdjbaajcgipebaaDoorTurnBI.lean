/-
  Beats that begin later: the program's.
-/
import Derived.Test.YtdjbaajcgipebaaDoorTurnB
namespace Go.Proofs.YtdjbaajcgipebaaDoor
open Go Go.RowKit

theorem cut_by (b n c k : Nat) (h1 : 0 < n) (h2 : k + n ≤ c) (hc : c ≤ maxLen) (w : World) (l : Nat) : Calls Tryd.prog 56 #[.slice (some ⟨b, 0, none⟩) l c, .int .i64 k, .int .i64 ((k : Int) + n)] w fun e w' => e = .returned (.slice (some ⟨b, k, none⟩) n n) ∧ w = w' := by
  have h := cut_any b 0 l c k (k + n) (by omega) h2 hc w
  rw [Nat.zero_add, show k + n - k = n by omega] at h
  exact h
set_option maxRecDepth 100000 in
set_option maxHeartbeats 2000000 in
theorem turned_any (n : Nat) (hn1 : 1 ≤ n) (hn2 : n ≤ 40) (g : Nat → Int) (k : Nat) (hk : k < n) (b : Nat) (w : World) (I : InH w b 0 n g) :
    Calls Tryd.prog 45 #[.slice (some ⟨b, 0, none⟩) n n, .int .i64 k] w fun e w' => ∃ p c, e = .returned (.slice p n c) ∧ HV w.heap.size w'.heap.size w' p n (turnG n g k) ∧ HW w.heap.size w'.heap.size w' p n ∧ Below w.heap.size w w' := by
  go_enter Tryd.func45, Tryd.ntmps45
  go_wp2_with (first
    | (go_at_call 48; refine (then_any n hn1 (by omega) g n hn1 (by omega) g b n b n (Nat.le_refl _) (by unfold maxLen; omega) _ I I).mono ?_; rintro e w1 ⟨v, rfl, ho, hb⟩; obtain ⟨_, h0 | ⟨bb, cap, cs, rfl, hbb, hB, c1, c2, c3, c4⟩⟩ := ho; exact absurd h0.2 (by omega); have HB := Lib.hid hB; have HC3 := Lib.hid c3; have HC4 := Lib.hid c4; have HBE := Lib.hid hb; clear hB c3 c4 hb)
    | (go_at_call 44; refine (length_any _ n n _).mono ?_; rintro e w' ⟨rfl, rfl⟩)
    | (go_at_call 56; refine (cut_by bb n cap k hn1 (by omega) c2 _ _).mono ?_; rintro e w' ⟨rfl, rfl⟩))
  go_ret
  have hB : Blk w1 bb cs 24 := HB.out
  have hs : cs.size = cap := by rw [HC3.out, Nat.mul_one]
  have hcell : ∀ i, i < n + n → cs[i]? = some (.int .i16 (if i < n then g i else g (i - n))) := fun i hi => by
    have h := HC4.out
    rw [Nat.mul_one, ← List.map_append, nums_append] at h
    have h5 : (cs.toList.take (n + n))[i]? = ((nums (fun i => if i < n then g i else g (i - n)) (n + n)).map (Value.int .i16))[i]? := by rw [h]
    rw [List.getElem?_take, if_pos hi, Array.getElem?_toList, List.getElem?_map, List.getElem?_eq_getElem (show i < (nums (fun i => if i < n then g i else g (i - n)) (n + n)).length by rw [nums_length]; exact hi)] at h5
    rw [h5]; simp [nums]
  refine ⟨_, _, rfl, .inr ⟨bb, k, rfl, hbb, hB.lt, fun i hi => ?_⟩, .inr ⟨bb, k, cs, rfl, hbb, hB.lt, by omega, hB⟩, HBE.out⟩
  rw [cell_of_row _ _ _ _ _ _ hB, hcell (k + i) (by omega)]
  unfold turnG
  rw [Int.toNat_natCast]
  by_cases h : k + i < n
  · rw [if_pos h, if_pos (by omega), Nat.add_comm]
  · rw [if_neg h, if_neg (by omega), Nat.add_comm]
set_option maxRecDepth 100000 in
set_option maxHeartbeats 4000000 in
theorem implTurnBeat (f : Fd) (hf : f.Wf) (n : Nat) (hn : n ≤ 2 ^ 40) (g : Nat → Int) (hg : WfH n g) (x : Int) (hx : -9223372036854775808 ≤ x ∧ x ≤ 9223372036854775807) (b : Nat) (A : Nat → Addr) (w : World) (I : InH w b 0 n g) (S0 : Sents w A) :
    Calls Tryd.prog 17 #[.agg (fcells f), .slice (some ⟨b, 0, none⟩) n n, .int .i64 x] w (TurnP f n g x w) := by
  have S : Hid (Sents w A) := Lib.hid S0
  have HI := Lib.hid I
  clear S0 I
  have hif := isIfaceErr
  obtain ⟨hx1, hx2⟩ := hx
  cases hq : okB f n g with
  | false =>
    have hc : Hid (beatsOk f 1 (fun _ => n) (fun _ => g) = false) := Lib.hid (by rw [beatsOk_one]; exact hq)
    have HT : Hid (turnCode f n g x = 1) := Lib.hid (beatAsk_no hq)
    clear hq
    go_enter Tryd.func17, Tryd.ntmps17
    go_upto_region 1 with (fail)
    obtain ⟨W, hW, M⟩ := open1 w (fcells f) 30
    rw [hW]; clear hW
    go_wp2_with (first
      | (refine wpList_load_part rfl 30 _ rfl w.heap.size 0 rfl (fcells f) _ (M.at 0 rfl).whole Tryd.underlying30 rfl (by rw [fcells_size]; exact sizeFd) ?_)
      | (go_at_call 40; refine (checkBeats_any f hf _ 1 _ (by omega) (fun _ => b) (fun _ => n) (fun _ => n) (fun _ => g) A _ (btsAt_one (Blk.new _ _ _) (HI.out.later (M.alloc _ _).below) hn hg) (S.out.later (M.alloc _ _).below).one).mono ?_; rintro e W2 ⟨rfl, hb⟩; rw [hc.out, errIf_false]; have M2 := (M.alloc _ _).call hb; clear hb)
      | (go_at_call 43; refine (codeOf_err A 1 (by omega) (by omega) _ (S.out.later M2.below)).mono ?_; rintro e W3 ⟨rfl, rfl⟩))
    go_ret2
    exact turnP_bad HT.out (by decide) _ _ M2.below
  | true =>
    have hc : Hid (beatsOk f 1 (fun _ => n) (fun _ => g) = true) := Lib.hid (by rw [beatsOk_one]; exact hq)
    obtain ⟨_, n1, n2⟩ := okB_iff hq
    by_cases hlo : 0 ≤ x
    · by_cases hhi : x < n
      · have HT : Hid (turnCode f n g x = 0) := Lib.hid (beatAsk_ok hq (by rw [inB_iff.2 (show 0 ≤ x ∧ x ≤ (n : Int) - 1 by omega)]; rfl))
        obtain ⟨k, rfl⟩ : ∃ k : Nat, x = (k : Int) := ⟨x.toNat, by omega⟩
        have hk : k < n := by omega
        clear hq hlo hhi
        go_enter Tryd.func17, Tryd.ntmps17
        go_upto_region 1 with (fail)
        obtain ⟨W, hW, M⟩ := open1 w (fcells f) 30
        rw [hW]; clear hW
        go_wp2_with (first
          | (refine wpList_load_part rfl 30 _ rfl w.heap.size 0 rfl (fcells f) _ (M.at 0 rfl).whole Tryd.underlying30 rfl (by rw [fcells_size]; exact sizeFd) ?_)
          | (go_at_call 40; refine (checkBeats_any f hf _ 1 _ (by omega) (fun _ => b) (fun _ => n) (fun _ => n) (fun _ => g) A _ (btsAt_one (Blk.new _ _ _) (HI.out.later (M.alloc _ _).below) hn hg) (S.out.later (M.alloc _ _).below).one).mono ?_; rintro e W2 ⟨rfl, hb⟩; rw [hc.out, errIf_true]; have M2 := (M.alloc _ _).call hb; clear hb)
          | (go_at_call 44; refine (length_any _ n n _).mono ?_; rintro e w' ⟨rfl, rfl⟩)
          | (go_at_call 45; refine (turned_any n n1 n2 g k hk b _ (HI.out.later M2.below)).mono ?_; rintro e W3 ⟨p, c, rfl, V, X, hb⟩; have V3 := Lib.hid V; have X3 := Lib.hid X; have s2 := M2.below.size; have M3 := M2.call hb; clear V X hb M2))
        go_ret2
        have hN : turnN f n g (k : Int) = n := by unfold turnN; rw [HT.out, if_pos rfl]
        refine ⟨p, c, by rw [hN, HT.out]; rfl, ?_, ?_, M3.below⟩
        · rw [hN]; exact V3.out.mono s2 (Nat.le_refl _)
        · rw [hN]; exact X3.out.mono s2 (Nat.le_refl _)
      · have HT : Hid (turnCode f n g x = 2) := Lib.hid (beatAsk_bad hq (by rw [inB_false (n := x) (lo := 0) (hi := (n : Int) - 1) (.inr (by omega)), Bool.and_false]))
        have t1 : decide (x < 0) = false := decide_eq_false (by omega)
        have t2 : decide ((n : Int) ≤ x) = true := decide_eq_true (by omega)
        clear hq
        go_enter Tryd.func17, Tryd.ntmps17
        go_upto_region 1 with (fail)
        obtain ⟨W, hW, M⟩ := open1 w (fcells f) 30
        rw [hW]; clear hW
        go_wp2_with (first
          | (refine wpList_load_part rfl 30 _ rfl w.heap.size 0 rfl (fcells f) _ (M.at 0 rfl).whole Tryd.underlying30 rfl (by rw [fcells_size]; exact sizeFd) ?_)
          | (go_at_call 40; refine (checkBeats_any f hf _ 1 _ (by omega) (fun _ => b) (fun _ => n) (fun _ => n) (fun _ => g) A _ (btsAt_one (Blk.new _ _ _) (HI.out.later (M.alloc _ _).below) hn hg) (S.out.later (M.alloc _ _).below).one).mono ?_; rintro e W2 ⟨rfl, hb⟩; rw [hc.out, errIf_true]; have M2 := (M.alloc _ _).call hb; have v2 := (S.out.later M2.below).v2; clear hb)
          | (go_at_call 44; refine (length_any _ n n _).mono ?_; rintro e w' ⟨rfl, rfl⟩)
          | (go_at_call 43; refine (codeOf_err A 2 (by omega) (by omega) _ (S.out.later M2.below)).mono ?_; rintro e W3 ⟨rfl, rfl⟩))
        go_ret2
        exact turnP_bad HT.out (by decide) _ _ M2.below
    · have HT : Hid (turnCode f n g x = 2) := Lib.hid (beatAsk_bad hq (by rw [inB_false (n := x) (lo := 0) (hi := (n : Int) - 1) (.inl (by omega)), Bool.and_false]))
      have t1 : decide (x < 0) = true := decide_eq_true (by omega)
      clear hq
      go_enter Tryd.func17, Tryd.ntmps17
      go_upto_region 1 with (fail)
      obtain ⟨W, hW, M⟩ := open1 w (fcells f) 30
      rw [hW]; clear hW
      go_wp2_with (first
        | (refine wpList_load_part rfl 30 _ rfl w.heap.size 0 rfl (fcells f) _ (M.at 0 rfl).whole Tryd.underlying30 rfl (by rw [fcells_size]; exact sizeFd) ?_)
        | (go_at_call 40; refine (checkBeats_any f hf _ 1 _ (by omega) (fun _ => b) (fun _ => n) (fun _ => n) (fun _ => g) A _ (btsAt_one (Blk.new _ _ _) (HI.out.later (M.alloc _ _).below) hn hg) (S.out.later (M.alloc _ _).below).one).mono ?_; rintro e W2 ⟨rfl, hb⟩; rw [hc.out, errIf_true]; have M2 := (M.alloc _ _).call hb; have v2 := (S.out.later M2.below).v2; clear hb)
        | (go_at_call 43; refine (codeOf_err A 2 (by omega) (by omega) _ (S.out.later M2.below)).mono ?_; rintro e W3 ⟨rfl, rfl⟩))
      go_ret2
      exact turnP_bad HT.out (by decide) _ _ M2.below
end Go.Proofs.YtdjbaajcgipebaaDoor
