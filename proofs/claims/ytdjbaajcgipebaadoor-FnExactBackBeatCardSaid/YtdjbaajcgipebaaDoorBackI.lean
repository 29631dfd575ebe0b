/-
  Beats backward: BackBeat, the model's, the program's.
-/
import Derived.Test.YtdjbaajcgipebaaDoorBack
namespace Go.Proofs.YtdjbaajcgipebaaDoor
open Go Go.RowKit

def backCode (f : Fd) (n : Nat) (g : Nat → Int) : Int := if okF f && beatOk f n g then 0 else 1
def backN (f : Fd) (n : Nat) (g : Nat → Int) : Nat := if okF f && beatOk f n g then n else 0
theorem backN_le (f : Fd) (n : Nat) (g : Nat → Int) : backN f n g ≤ n := by unfold backN; split <;> omega
def BackP (f : Fd) (n : Nat) (g : Nat → Int) (w : World) (e : Ending) (w' : World) : Prop :=
  ∃ p c, e = .returned (.tuple #[.slice p (backN f n g) c, .int .i64 (backCode f n g)]) ∧ HV w.heap.size w'.heap.size w' p (backN f n g) (backG n g) ∧ HW w.heap.size w'.heap.size w' p (backN f n g) ∧ Below w.heap.size w w'
theorem backP_bad {f : Fd} {n : Nat} {g : Nat → Int} {w w' : World} (hq : (okF f && beatOk f n g) = false) (p : Option Addr) (c : Nat) (hb : Below w.heap.size w w') : BackP f n g w (.returned (.tuple #[.slice p 0 c, .int .i64 1])) w' := by
  have hN : backN f n g = 0 := by unfold backN; rw [hq]; rfl
  have hC : backCode f n g = 1 := by unfold backCode; rw [hq]; rfl
  exact ⟨p, c, by rw [hN, hC], .inl hN, .inl hN, hb⟩
set_option maxRecDepth 100000 in
set_option maxHeartbeats 4000000 in
theorem specBackBeat (f : Fd) (hf : f.Wf) (n : Nat) (hn : n ≤ 2 ^ 40) (g : Nat → Int) (hg : WfH n g) (b : Nat) (w : World) (I : InH w b 0 n g) :
    Calls Tryd.prog 20 #[.agg (fcells f), .slice (some ⟨b, 0, none⟩) n n] w (BackP f n g w) := by
  have HI := Lib.hid I
  have HG := Lib.hid hg
  clear I hg
  obtain ⟨i0, hinf, hz0, hz1, hz2⟩ := info_parts Hinfo
  cases hq : (okF f && beatOk f n g) with
  | false =>
    have HQ := Lib.hid hq
    clear hq
    go_enter Tryd.func20, Tryd.ntmps20
    go_upto_region 1 with (fail)
    obtain ⟨W, hW, M⟩ := open1 w (fcells f) 30
    rw [hW]; clear hW
    go_wp2_with (go_at_call 37; refine (l05Ok_any f hf n hn g HG.out _ b n _ (M.at 0 rfl) (HI.out.later M.below)).mono ?_; rintro e w' ⟨rfl, rfl⟩; rw [HQ.out])
    go_ret2
    exact backP_bad HQ.out _ _ (M.alloc _ _).below
  | true =>
    have HQ := Lib.hid hq
    rw [Bool.and_eq_true] at hq
    obtain ⟨n1, n2, _, _⟩ := beatOk_iff hq.2
    clear hq
    go_enter Tryd.func20, Tryd.ntmps20
    go_upto_region 1 with (fail)
    obtain ⟨W, hW, M⟩ := open1 w (fcells f) 30
    rw [hW]; clear hW
    have s0 := M.below.size
    have c0 := (HI.out.later M.below) 0 (by omega)
    rw [Nat.zero_add] at c0
    go_wp2_with (go_at_call 37; refine (l05Ok_any f hf n hn g HG.out _ b n _ (M.at 0 rfl) (HI.out.later M.below)).mono ?_; rintro e w' ⟨rfl, rfl⟩; rw [HQ.out])
    clear c0
    have R1 : (W.alloc (.cells #[.int .i16 (g 0)] 24)).ownsRow W.heap.size 24 1 (.slice (some ⟨W.heap.size, 0, none⟩) 1 1) 1 ((nums (backG n g) 1).map (Value.int .i16)) :=
      ⟨by rw [List.length_map, nums_length], .inr ⟨W.heap.size, 1, _, rfl, Nat.le_refl _, look_alloc_new _ _ _ rfl, Nat.le_refl _, by unfold maxLen; omega, rfl, by simp [nums, backG]⟩⟩
    have HR1 := Lib.hid R1
    have HB1 := Lib.hid ((Below.refl W.heap.size W).alloc (Nat.le_refl _) (.cells #[.int .i16 (g 0)] 24))
    clear R1
    go_loopw [6, 7] (fun v i wr => ∃ k : Nat, 1 ≤ k ∧ k ≤ n ∧ i = .int .i64 ((n : Int) - k) ∧ Hid (wr.ownsRow W.heap.size 24 1 v k ((nums (backG n g) k).map (Value.int .i16))) ∧ Hid (Below W.heap.size W wr)) (fun _ i _ => (intOf i).toNat)
    case atStart => exact ⟨1, by omega, by omega, rfl, HR1, HB1⟩
    case round =>
      clear HR1 HB1
      obtain ⟨k, hk1, hk2, rfl, hO, hB⟩ := hrel
      by_cases hlt : k < n
      · have hgt : 0 < (n : Int) - (k : Int) := by omega
        obtain ⟨j, hj⟩ : ∃ j : Nat, (n : Int) - (k : Int) = (j : Int) := ⟨n - k, by omega⟩
        rw [hj] at hgt ⊢
        have hjn : j < n := by omega
        have HJ : Hid (n - k = j) := Lib.hid (by omega)
        have HJ2 := Lib.hid hj
        clear hj
        have d0 := ((HI.out.later M.below).later (Below.mono hB.out (Nat.le_refl _))) j hjn
        rw [Nat.zero_add] at d0
        have hbs := hB.out.size
        have hown1 := hO.out.alloc (.cells #[.int .i16 (g j)] 24)
        have HO1 := Lib.hid hown1
        clear hown1
        go_wp2_with (at_builtin; refine wpList_append_own _ rfl _ _ 32 rfl W.heap.size 24 i0 (.int .i16 0) 1 2 Tryd.underlying32 hinf hz0 hz1 hz2 rfl (by decide) _ _ _ rfl HO1.out ⟨wr.heap.size, 0, none⟩ 1 1 [.int .i16 (g j)] rfl rfl ?c1 ?c2 ?c3 ?c4 ?c5 ?_)
        case c1 =>
          intro q u hqu
          have hq0 : q = 0 := by have := (List.getElem?_eq_some_iff.1 hqu).1; simp at this; exact this
          subst hq0
          simp at hqu
          subst hqu
          rw [Addr.add_lit]
          exact (Blk.new wr #[.int .i16 (g j)] 24).cell rfl
        case c2 => intro u hu; simp at hu; subst hu; rfl
        case c3 => unfold maxLen; omega
        case c4 => omega
        case c5 => simp; omega
        intro v2 w2 ho2 hg2 _
        have C2 := Lib.hid (below_own (hB.out.alloc hB.out.size (.cells #[.int .i16 (g j)] 24)) (by simp; omega) HO1.out hg2)
        have O2 : Hid (w2.ownsRow W.heap.size 24 1 v2 (k + 1) ((nums (backG n g) (k + 1)).map (Value.int .i16))) := Lib.hid (by
          have e : (nums (backG n g) (k + 1)).map (Value.int .i16) = (nums (backG n g) k).map (Value.int .i16) ++ [.int .i16 (g j)] := by
            unfold nums
            rw [List.range_succ, List.map_append, List.map_append]
            congr 1
            simp only [List.map_cons, List.map_nil]
            unfold backG
            rw [if_neg (by omega), HJ.out]
          rw [e]; exact ho2)
        clear ho2 hg2 d0
        go_wp2_with fail
        go_roundw
        case rel => exact ⟨k + 1, by omega, by omega, by have := HJ2.out; congr 1; omega, O2, C2⟩
        case measure => simp [intOf]; omega
      · obtain rfl : k = n := by omega
        have hz : decide ((0 : Int) < (k : Int) - (k : Int)) = false := decide_eq_false (by omega)
        go_wp2_with fail
        go_ret2
        have hN : backN f k g = k := by unfold backN; rw [HQ.out]; rfl
        have hC : backCode f k g = 0 := by unfold backCode; rw [HQ.out]; rfl
        obtain ⟨p, c, rfl, V, X⟩ := Hown (nums_length _ _) hO.out
        refine ⟨p, c, by rw [hN, hC]; rfl, ?_, ?_, M.below.trans (hB.out.mono s0)⟩
        · rw [hN]; exact (V.congr (fun i hi => nums_getD _ _ _ hi)).mono s0 (Nat.le_refl _)
        · rw [hN]; exact X.mono s0 (Nat.le_refl _)
set_option maxRecDepth 100000 in
set_option maxHeartbeats 4000000 in
theorem implBackBeat (f : Fd) (hf : f.Wf) (n : Nat) (hn : n ≤ 2 ^ 40) (g : Nat → Int) (hg : WfH n g) (b : Nat) (A : Nat → Addr) (w : World) (I : InH w b 0 n g) (S0 : Sents w A) :
    Calls Tryd.prog 21 #[.agg (fcells f), .slice (some ⟨b, 0, none⟩) n n] w (BackP f n g w) := by
  have S : Hid (Sents w A) := Lib.hid S0
  have HI := Lib.hid I
  clear S0 I
  have hif := isIfaceErr
  cases hq : (okF f && beatOk f n g) with
  | false =>
    have hc : Hid (beatsOk f 1 (fun _ => n) (fun _ => g) = false) := Lib.hid (by rw [beatsOk_one]; exact hq)
    have HQ := Lib.hid hq
    clear hq
    go_enter Tryd.func21, Tryd.ntmps21
    go_upto_region 1 with (fail)
    obtain ⟨W, hW, M⟩ := open1 w (fcells f) 30
    rw [hW]; clear hW
    go_wp2_with (first
      | (refine wpList_load_part rfl 30 _ rfl w.heap.size 0 rfl (fcells f) _ (M.at 0 rfl).whole Tryd.underlying30 rfl (by rw [fcells_size]; exact sizeFd) ?_)
      | (go_at_call 40; refine (checkBeats_any f hf _ 1 _ (by omega) (fun _ => b) (fun _ => n) (fun _ => n) (fun _ => g) A _ (btsAt_one (Blk.new _ _ _) (HI.out.later (M.alloc _ _).below) hn hg) (S.out.later (M.alloc _ _).below).one).mono ?_; rintro e W2 ⟨rfl, hb⟩; rw [hc.out, errIf_false]; have M2 := (M.alloc _ _).call hb; clear hb)
      | (go_at_call 43; refine (codeOf_err A 1 (by omega) (by omega) _ (S.out.later M2.below)).mono ?_; rintro e W3 ⟨rfl, rfl⟩))
    go_ret2
    exact backP_bad HQ.out _ _ M2.below
  | true =>
    have hc : Hid (beatsOk f 1 (fun _ => n) (fun _ => g) = true) := Lib.hid (by rw [beatsOk_one]; exact hq)
    have HQ := Lib.hid hq
    rw [Bool.and_eq_true] at hq
    obtain ⟨n1, n2, _, _⟩ := beatOk_iff hq.2
    clear hq
    go_enter Tryd.func21, Tryd.ntmps21
    go_upto_region 1 with (fail)
    obtain ⟨W, hW, M⟩ := open1 w (fcells f) 30
    rw [hW]; clear hW
    go_wp2_with (first
      | (refine wpList_load_part rfl 30 _ rfl w.heap.size 0 rfl (fcells f) _ (M.at 0 rfl).whole Tryd.underlying30 rfl (by rw [fcells_size]; exact sizeFd) ?_)
      | (go_at_call 40; refine (checkBeats_any f hf _ 1 _ (by omega) (fun _ => b) (fun _ => n) (fun _ => n) (fun _ => g) A _ (btsAt_one (Blk.new _ _ _) (HI.out.later (M.alloc _ _).below) hn hg) (S.out.later (M.alloc _ _).below).one).mono ?_; rintro e W2 ⟨rfl, hb⟩; rw [hc.out, errIf_true]; have M2 := (M.alloc _ _).call hb; clear hb)
      | (go_at_call 46; refine (back_any n n1 n2 g b _ (HI.out.later M2.below)).mono ?_; rintro e W3 ⟨p, c, rfl, V, X, hb⟩; have V3 := Lib.hid V; have X3 := Lib.hid X; have s2 := M2.below.size; have M3 := M2.call hb; clear V X hb M2))
    go_ret2
    have hN : backN f n g = n := by unfold backN; rw [HQ.out]; rfl
    have hC : backCode f n g = 0 := by unfold backCode; rw [HQ.out]; rfl
    refine ⟨p, c, by rw [hN, hC]; rfl, ?_, ?_, M3.below⟩
    · rw [hN]; exact V3.out.mono s2 (Nat.le_refl _)
    · rw [hN]; exact X3.out.mono s2 (Nat.le_refl _)
end Go.Proofs.YtdjbaajcgipebaaDoor
