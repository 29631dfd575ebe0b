/-
  What is in a set, but not in another one: its bits.
  Targets: the code of a field, nets and targets, and what nets leave bare: the model's, the program's.
  Whether nets cover all targets: the model's, the program's.
-/
import Derived.Test.YtniibbgcdaijfaaDoorSetB
import Derived.Test.YtniibbgcdaijfaaDoorList
import Derived.Test.YtniibbgcdaijfaaDoorChkG
import Derived.Test.YtniibbgcdaijfaaDoorNetJ
namespace Go.Proofs.YtniibbgcdaijfaaDoor
section
open Go Go.RowKit

def andn (a b : Nat) : Nat := (BitVec.ofInt 64 (a : Int) &&& ~~~ BitVec.ofInt 64 (b : Int)).toNat
theorem andn_lt (a b : Nat) : andn a b < 18446744073709551616 := by
  have := (BitVec.ofInt 64 (a : Int) &&& ~~~ BitVec.ofInt 64 (b : Int)).isLt
  unfold andn; rw [p64]; exact this
theorem andn_bit (a b k : Nat) (hk : k < 64) : (andn a b).testBit k = (a.testBit k && !b.testBit k) := by
  unfold andn
  rw [BitVec.testBit_toNat, BitVec.getLsbD_and, BitVec.getLsbD_not, BitVec.ofInt_natCast, BitVec.ofInt_natCast, BitVec.getLsbD_ofNat, BitVec.getLsbD_ofNat]
  simp [hk]
theorem bits_andn (a b : Nat) : bits .andNot .u64 (a : Int) (b : Int) = ((andn a b : Nat) : Int) := by
  have hx := andn_lt a b
  show IntKind.u64.wrap ((BitVec.ofInt 64 (a : Int) &&& ~~~ BitVec.ofInt 64 (b : Int)).toNat : Int) = _
  change IntKind.u64.wrap ((andn a b : Nat) : Int) = _
  rw [IntKind.wrap_u64]
  omega
theorem andn_le (a b : Nat) (ha : a < 18446744073709551616) : andn a b ≤ a := by
  apply Nat.le_of_testBit
  intro i hi
  by_cases h : i < 64
  · rw [andn_bit a b i h] at hi
    simp only [Bool.and_eq_true] at hi
    exact hi.1
  · have hl := andn_lt a b
    rw [p64] at hl
    rw [Nat.testBit_lt_two_pow (Nat.lt_of_lt_of_le hl (Nat.pow_le_pow_right (by omega) (by omega)))] at hi
    cases hi
theorem less_nat {f g : Nat → Int} (hf : U64 f) (hg : U64 g) (i : Nat) : ∃ a b : Nat, f i = (a : Int) ∧ g i = (b : Int) ∧ a < 18446744073709551616 ∧ b < 18446744073709551616 ∧ joinC .andNot f g i = ((andn a b : Nat) : Int) := by
  obtain ⟨a, ea, ha⟩ := nat_of hf i
  obtain ⟨b, eb, hb⟩ := nat_of hg i
  exact ⟨a, b, ea, eb, ha, hb, by show bits .andNot .u64 (f i) (g i) = _; rw [ea, eb, bits_andn]⟩
theorem less_u64 {f g : Nat → Int} (hf : U64 f) (hg : U64 g) : U64 (joinC .andNot f g) := fun i => by
  obtain ⟨a, b, _, _, _, _, h⟩ := less_nat hf hg i
  have := andn_lt a b
  rw [h]; omega
theorem less_N100 {f g : Nat → Int} (hf : N100 f) (hg : U64 g) : N100 (joinC .andNot f g) := ⟨less_u64 hf.1 hg, by
  obtain ⟨a, b, ea, _, ha, _, h⟩ := less_nat hf.1 hg 1
  have h1 := andn_le a b ha
  have h2 := hf.2
  rw [h]; rw [ea] at h2; omega⟩
theorem hasC_less {f g : Nat → Int} (hf : U64 f) (hg : U64 g) {j : Nat} (hj : j < 100) : hasC (joinC .andNot f g) (j : Int) = (hasC f (j : Int) && !hasC g (j : Int)) := by
  obtain ⟨a, b, ea, eb, ha, hb, h⟩ := less_nat hf hg (j / 64)
  rw [hasC_bit hj h (andn_lt a b), hasC_bit hj ea ha, hasC_bit hj eb hb, andn_bit _ _ _ (by omega)]
/-- The words with the bits above 99 left away. -/
def cutC (g : Nat → Int) (i : Nat) : Int := if i = 0 then g 0 else bits .and .u64 (g 1) 68719476735
theorem opC_cut (op : BinOp) (f g : Nat → Int) : opC op f g = cutC (joinC op f g) := rfl
theorem cutC_N100 {g : Nat → Int} (hg : U64 g) : N100 (cutC g) := by
  obtain ⟨b, eb, hb⟩ := nat_of hg 1
  have e : ∀ i, i ≠ 0 → cutC g i = ((b % 68719476736 : Nat) : Int) := fun i hi => by
    unfold cutC; rw [if_neg hi, eb, mask_lt b hb]
  refine ⟨fun i => ?_, by rw [e 1 (by omega)]; omega⟩
  by_cases hi : i = 0
  · subst hi; exact hg 0
  · rw [e i hi]; omega
theorem hasC_cut {g : Nat → Int} (hg : U64 g) {j : Nat} (hj : j < 100) : hasC (cutC g) (j : Int) = hasC g (j : Int) := by
  by_cases h : j < 64
  · obtain ⟨a, ea, ha⟩ := nat_of hg 0
    rw [hasC_bit (a := a) hj (by rw [Nat.div_eq_of_lt h]; exact ea) ha, hasC_bit (a := a) hj (by rw [Nat.div_eq_of_lt h]; exact ea) ha]
  · obtain ⟨b, eb, hb⟩ := nat_of hg 1
    have e1 : j / 64 = 1 := by omega
    have e2 : cutC g 1 = ((b % 68719476736 : Nat) : Int) := by unfold cutC; rw [if_neg (by omega), eb, mask_lt b hb]
    rw [hasC_bit (a := b % 68719476736) hj (by rw [e1]; exact e2) (by omega), hasC_bit (a := b) hj (by rw [e1]; exact eb) hb, p36, Nat.testBit_mod_two_pow]
    simp; omega
theorem hlist_congr {f g : Nat → Int} : ∀ n, n ≤ 100 → (∀ j : Nat, j < 100 → hasC f (j : Int) = hasC g (j : Int)) → hlist f n = hlist g n
  | 0, _, _ => rfl
  | n + 1, hn, h => by
    have ih := hlist_congr n (by omega) h
    have hj := h n (by omega)
    cases hc : hasC g (n : Int) with
    | true => rw [hlist_hit hc, hlist_hit (by rw [hj]; exact hc), ih]
    | false => rw [hlist_miss hc, hlist_miss (by rw [hj]; exact hc), ih]
theorem hlist_nil {g : Nat → Int} : ∀ {n}, hlist g n = [] → ∀ j : Nat, j < n → hasC g (j : Int) = false
  | 0, _, j, hj => by omega
  | n + 1, h, j, hj => by
    cases hc : hasC g (n : Int) with
    | true => rw [hlist_hit hc] at h; simp at h
    | false =>
      rw [hlist_miss hc] at h
      by_cases e : j = n
      · subst e; exact hc
      · exact hlist_nil h j (by omega)
theorem hlist_empty {g : Nat → Int} : ∀ {n}, (∀ j : Nat, j < n → hasC g (j : Int) = false) → hlist g n = []
  | 0, _ => rfl
  | n + 1, h => by rw [hlist_miss (h n (by omega)), hlist_empty (fun j hj => h j (by omega))]
/-- A set with no number: its words, its list. -/
theorem none_iff {g : Nat → Int} (hg : N100 g) : (g 0 = 0 ∧ g 1 = 0) ↔ hlist g 100 = [] := by
  constructor
  · intro h
    exact hlist_empty (fun j hj => by
      have h2 : hasC g (j : Int) = hasC (fun _ => 0) (j : Int) := by unfold hasC; rw [h.1, h.2]
      rw [h2, hasC_zero j hj])
  · exact fun h => word_zero hg (hlist_nil h)
/-- Two words of a set that comes in. -/
theorem u64_of (g : Nat → Int) (h : ∀ i, i < 2 → (Lit.int .u64 (g i)).wf = true) : ∃ g', U64 g' ∧ acells .u64 2 g = acells .u64 2 g' := by
  refine ⟨fun i => if i < 2 then g i else 0, fun i => ?_, acells_congr (fun i hi => by rw [if_pos hi])⟩
  show 0 ≤ (if i < 2 then g i else 0) ∧ (if i < 2 then g i else 0) < 18446744073709551616
  by_cases hi : i < 2
  · rw [if_pos hi]
    have e1 : IntKind.u64.min = 0 := by decide
    have e2 : IntKind.u64.max = 18446744073709551615 := by decide
    have := h i hi
    simp [Lit.wf, e1, e2] at this
    omega
  · rw [if_neg hi]; omega
theorem wf_of_u64 {g : Nat → Int} (h : U64 g) : ∀ i, i < 2 → (Lit.int .u64 (g i)).wf = true := fun i _ => lit_word (h i)
end
section
open Go Go.RowKit

theorem codeT_1 {f : Fd} {n : Nat} {F : Nat → Nat → Int} {g : Nat → Int} (h : netsCode f n F = 1) : codeT f n F g true = 1 := by
  unfold netsCode at h
  unfold codeT
  rw [Bool.and_true]
  cases hx : okF f && netsOk f n F with
  | false => rfl
  | true =>
    rw [hx, if_pos rfl] at h
    split at h <;> simp at h
theorem codeT_3 {f : Fd} {n : Nat} {F : Nat → Nat → Int} {g : Nat → Int} (h : netsCode f n F = 3) : codeT f n F g true = 3 := by
  unfold netsCode at h
  unfold codeT
  rw [Bool.and_true]
  cases hx : okF f && netsOk f n F with
  | false => rw [hx] at h; simp at h
  | true =>
    rw [hx, if_pos rfl] at h
    split at h
    · rename_i h20; rw [if_pos rfl, if_pos (.inl h20)]
    · simp at h
def tgtCode (f : Fd) (g : Nat → Int) : Int := if tgtOk f g then 0 else 2
theorem tgtCode_yes {f : Fd} {g : Nat → Int} (h : tgtOk f g = true) : tgtCode f g = 0 := by unfold tgtCode; rw [h]; rfl
theorem tgtCode_no {f : Fd} {g : Nat → Int} (h : tgtOk f g = false) : tgtCode f g = 2 := by unfold tgtCode; rw [h]; rfl
theorem codeT_0 {f : Fd} {n : Nat} {F : Nat → Nat → Int} {g : Nat → Int} (h : netsCode f n F = 0) : codeT f n F g true = if 12 < (hlist g 100).length then 3 else tgtCode f g := by
  obtain ⟨h1, h2, h3⟩ := code_0 h
  unfold codeT
  rw [h1, h2, if_pos (show (true && true && true) = true from rfl)]
  by_cases h4 : 12 < (hlist g 100).length
  · rw [if_pos (.inr h4), if_pos h4]
  · rw [if_neg (by omega), if_neg h4]; rfl
theorem codeT_zeroN {f : Fd} {n : Nat} {F : Nat → Nat → Int} {g : Nat → Int} {pk : Bool} (h : codeT f n F g pk = 0) : netsCode f n F = 0 := by
  unfold codeT at h
  cases hx : okF f && netsOk f n F && pk with
  | false => rw [hx] at h; simp at h
  | true =>
    rw [hx, if_pos rfl] at h
    simp only [Bool.and_eq_true] at hx
    by_cases h4 : 20 < n ∨ 12 < (hlist g 100).length
    · rw [if_pos h4] at h; simp at h
    · exact code_ok hx.1.1 hx.1.2 (by omega)
theorem listS (g : Nat → Int) (b : Nat) (w : World) (B : Blk w b (acells .u64 2 (g)) 38) : Calls Tryd.prog 33 #[.pointer (some ⟨b, 0, none⟩)] w fun e w' => ∃ q c, e = .returned (.slice q (hlist g 100).length c) ∧ InO w' q (hlist g 100).length (fun i => (hlist g 100).getD i 0) ∧ Below w.heap.size w w' :=
  (l01List_any g b w B).mono (fun e w2 h => by
    obtain ⟨v, rfl, ho, hb⟩ := h
    obtain ⟨q, c, rfl, J, _⟩ := (show Lst w.heap.size w2 v (hlist g 100) from ho).val
    exact ⟨q, c, rfl, J, hb⟩)
/-- The rounds of the targets: all that have been looked at are cells, or one is none. -/
def TgtR (f : Fd) (g : Nat → Int) (k : Nat) (code : Int) : Prop := (code = 0 ∧ ∀ i, i < k → isCell f ((hlist g 100).getD i 0) = true) ∨ (code = 2 ∧ tgtOk f g = false)
set_option maxRecDepth 100000 in
set_option maxHeartbeats 4000000 in
theorem l04Targets_any (f : Fd) (hf : f.Wf) (n : Nat) (hn : n ≤ 2 ^ 40) (F : Nat → Nat → Int) (hF : ∀ i, i < n → WfN (F i)) (g : Nat → Int) (b o c bf bg : Nat) (w : World) (B0 : Blk w bf (fcells f) 34) (G0 : Blk w bg (acells .u64 2 (g)) 38) (I : InS w b o n ksNet F) :
    Calls Tryd.prog 18 #[.pointer (some ⟨bf, 0, none⟩), .slice (some ⟨b, o, none⟩) n c, .pointer (some ⟨bg, 0, none⟩)] w fun e w' => e = .returned (.int .i64 (codeT f n F g true)) ∧ Below w.heap.size w w' := by
  have HI := Lib.hid I
  have HB := Lib.hid B0
  have HG := Lib.hid G0
  clear I B0 G0
  have hle := hlist_le g 100
  rcases code_three f n F with hc | hc | hc
  · rw [codeT_0 hc]
    have hok := (code_0 hc).1
    have hH : f.H ≤ 10 := (okF_size hok).2.2.2
    have hc := Lib.hid hc
    by_cases h12 : 12 < (hlist g 100).length
    · rw [if_pos h12]
      obtain ⟨m, hm⟩ : ∃ m, (hlist g 100).length = m := ⟨_, rfl⟩
      have hmm := Lib.hid hm
      rw [hm] at h12 hle
      clear hm
      have hd : decide ((12 : Int) < (m : Int)) = true := decide_eq_true (by omega)
      have hp : decide ((0 : Int) < (m : Int)) = true := decide_eq_true (by omega)
      have hp2 : 0 < m := by omega
      go_enter Tryd.func18, Tryd.ntmps18
      go_wp2_with (first
        | (go_at_call 32; refine (l04Nets_some f hf n hn F hF b o c bf _ HB.out HI.out).mono ?_; rintro e W1 ⟨rfl, hb1⟩; rw [hc.out]; have G1 := Lib.hid (HG.out.later hb1))
        | (go_at_call 33; refine (listS g bg _ G1.out).mono ?_; rintro e W2 ⟨q, c9, rfl, J, hb2⟩; rw [hmm.out]; have hb3 := hb1.trans (hb2.mono hb1.size); clear J hb1 hb2))
      refine wp_loop_rounds 1 ?_
      rw [rounds_succ]
      go_wp2_with fail
      go_ret
      exact ⟨rfl, hb3⟩
    · rw [if_neg h12]
      obtain ⟨m, hm⟩ : ∃ m, (hlist g 100).length = m := ⟨_, rfl⟩
      have hmm := Lib.hid hm
      rw [hm] at h12 hle
      clear hm
      have hd : decide ((12 : Int) < (m : Int)) = false := decide_eq_false (by omega)
      go_enter Tryd.func18, Tryd.ntmps18
      go_wp2_with (first
        | (go_at_call 32; refine (l04Nets_some f hf n hn F hF b o c bf _ HB.out HI.out).mono ?_; rintro e W1 ⟨rfl, hb1⟩; rw [hc.out]; have G1 := Lib.hid (HG.out.later hb1))
        | (go_at_call 33; refine (listS g bg _ G1.out).mono ?_; rintro e W2 ⟨q, c9, rfl, J, hb2⟩; rw [hmm.out] at J ⊢; have hb3 := Lib.hid (hb1.trans (hb2.mono hb1.size)); have JJ := Lib.hid J; clear J hb1 hb2))
      clear hd
      go_loopw [7, 9] (fun cd i wr => ∃ (k : Nat) (code : Int), k ≤ m ∧ cd = .int .i64 code ∧ i = .int .i64 k ∧ Hid (TgtR f g k code) ∧ Hid (Below W2.heap.size W2 wr)) (fun _ i _ => m - (intOf i).toNat)
      case atStart => exact ⟨0, 0, by omega, rfl, rfl, Lib.hid (.inl ⟨rfl, fun i hi => by omega⟩), Lib.hid (Below.refl _ _)⟩
      case round =>
        obtain ⟨k, code, hk, rfl, rfl, hR, hbr⟩ := hrel
        have hfin : Hid (Below w.heap.size w wr) := Lib.hid (hb3.out.trans (hbr.out.mono hb3.out.size))
        rcases hR.out with ⟨rfl, hall⟩ | ⟨rfl, hno⟩
        · have HALL := Lib.hid hall
          clear hall hR
          by_cases hlt : k < m
          · have J2 := JJ.out.later hbr.out
            rcases J2 with hz | ⟨lb, rfl, J3⟩
            · omega
            · have c0 : wr.cell? ⟨lb, k, none⟩ = some (.int .i64 ((hlist g 100).getD k 0)) := by
                have h := J3 k hlt
                rw [Nat.zero_add] at h
                exact h
              have hin := hlist_in (g := g) (i := k) (by rw [hmm.out]; exact hlt)
              obtain ⟨x, hx⟩ : ∃ x, (hlist g 100).getD k 0 = x := ⟨_, rfl⟩
              have hxx := Lib.hid hx
              rw [hx] at c0 hin
              clear hx J3
              obtain ⟨hx0, hx9⟩ := hin
              have hBr := Lib.hid (HB.out.later hfin.out)
              cases hq : isCell f x with
              | true =>
                have HQ := Lib.hid hq
                go_wp2_with (go_at_call 34; refine (l01Is_any f x bf _ hf.W hf.H hBr.out).mono ?_; rintro e W4 ⟨rfl, rfl⟩; rw [hq]; clear c0)
                go_roundw
                case rel => exact ⟨k + 1, 0, by omega, rfl, by go_num, Lib.hid (.inl ⟨rfl, upto_succ HALL.out (by rw [hxx.out]; exact HQ.out)⟩), hbr⟩
                case measure => simp [intOf]; omega
              | false =>
                have HQ := Lib.hid hq
                go_wp2_with (go_at_call 34; refine (l01Is_any f x bf _ hf.W hf.H hBr.out).mono ?_; rintro e W4 ⟨rfl, rfl⟩; rw [hq]; clear c0)
                go_roundw
                case rel => exact ⟨k + 1, 2, by omega, rfl, by go_num, Lib.hid (.inr ⟨rfl, by unfold tgtOk; rw [hmm.out]; exact allTo_false hlt (by rw [hxx.out]; exact HQ.out)⟩), hbr⟩
                case measure => simp [intOf]; omega
          · obtain rfl : k = m := by omega
            have ht : Hid (tgtCode f g = 0) := Lib.hid (tgtCode_yes (by unfold tgtOk; rw [hmm.out]; exact allTo_iff.2 HALL.out))
            go_wp2_with fail
            go_ret
            exact ⟨by rw [ht.out]; rfl, hfin.out⟩
        · have ht : Hid (tgtCode f g = 2) := Lib.hid (tgtCode_no hno)
          clear hno hR
          by_cases hlt : k < m
          · go_wp2_with fail
            go_ret
            exact ⟨by rw [ht.out]; rfl, hfin.out⟩
          · obtain rfl : k = m := by omega
            go_wp2_with fail
            go_ret
            exact ⟨by rw [ht.out]; rfl, hfin.out⟩
  · rw [codeT_1 hc]
    have hc := Lib.hid hc
    go_enter Tryd.func18, Tryd.ntmps18
    go_wp2_with (go_at_call 32; refine (l04Nets_some f hf n hn F hF b o c bf _ HB.out HI.out).mono ?_; rintro e W1 ⟨rfl, hb1⟩; rw [hc.out])
    go_ret
    exact ⟨rfl, hb1⟩
  · rw [codeT_3 hc]
    have hc := Lib.hid hc
    obtain ⟨m, hm⟩ : ∃ m, (hlist g 100).length = m := ⟨_, rfl⟩
    have hmm := Lib.hid hm
    rw [hm] at hle
    clear hm
    by_cases hm0 : m = 0
    · subst hm0
      go_enter Tryd.func18, Tryd.ntmps18
      go_wp2_with (first
        | (go_at_call 32; refine (l04Nets_some f hf n hn F hF b o c bf _ HB.out HI.out).mono ?_; rintro e W1 ⟨rfl, hb1⟩; rw [hc.out]; have G1 := Lib.hid (HG.out.later hb1))
        | (go_at_call 33; refine (listS g bg _ G1.out).mono ?_; rintro e W2 ⟨q, c9, rfl, J, hb2⟩; rw [hmm.out]; have hb3 := hb1.trans (hb2.mono hb1.size); clear J hb1 hb2))
      refine wp_loop_rounds 1 ?_
      rw [rounds_succ]
      go_wp2_with fail
      go_ret
      exact ⟨rfl, hb3⟩
    · have hp : decide ((0 : Int) < (m : Int)) = true := decide_eq_true (by omega)
      have hp2 : 0 < m := by omega
      clear hm0
      go_enter Tryd.func18, Tryd.ntmps18
      go_wp2_with (first
        | (go_at_call 32; refine (l04Nets_some f hf n hn F hF b o c bf _ HB.out HI.out).mono ?_; rintro e W1 ⟨rfl, hb1⟩; rw [hc.out]; have G1 := Lib.hid (HG.out.later hb1))
        | (go_at_call 33; refine (listS g bg _ G1.out).mono ?_; rintro e W2 ⟨q, c9, rfl, J, hb2⟩; rw [hmm.out]; have hb3 := hb1.trans (hb2.mono hb1.size); clear J hb1 hb2))
      refine wp_loop_rounds 1 ?_
      rw [rounds_succ]
      go_wp2_with fail
      go_ret
      exact ⟨rfl, hb3⟩
set_option maxRecDepth 100000 in
set_option maxHeartbeats 2000000 in
theorem l04Bare_some (n : Nat) (hn : n ≤ 2 ^ 40) (F : Nat → Nat → Int) (hF : ∀ i, i < n → NetFits (F i)) (g : Nat → Int) (b o c bg : Nat) (w : World) (G0 : Blk w bg (acells .u64 2 (g)) 38) (I : InS w b o n ksNet F) :
    Calls Tryd.prog 19 #[.slice (some ⟨b, o, none⟩) n c, .pointer (some ⟨bg, 0, none⟩)] w fun e w' => ∃ q c, e = .returned (.slice q (hlist (joinC .andNot g (cov F n)) 100).length c) ∧ InO w' q (hlist (joinC .andNot g (cov F n)) 100).length (fun i => (hlist (joinC .andNot g (cov F n)) 100).getD i 0) ∧ Below w.heap.size w w' := by
  have HI := Lib.hid I
  have HG := Lib.hid G0
  clear I G0
  go_enter Tryd.func19, Tryd.ntmps19
  go_upto_region 1 with (fail)
  refine wp_region_rel_tail 7 (DL [dV (.pointer (some ⟨bg, 0, none⟩)), dV (.pointer (some ⟨bg, 0, none⟩)), dV (.agg (acells .u64 2 (g))), dV (.slice (some ⟨b, o, none⟩) n c), dV (.agg (acells .u64 2 (cov F n))), dV (.agg (acells .u64 2 (joinC .andNot g (cov F n)))), dB (#[.int .u64 0, .int .u64 0]) 38]) (fun w' => Below w.heap.size w w') (by kernel_rfl) (by kernel_rfl) (fun _ _ h h' => h.trans (h'.mono h.size))
    (stays_DL (fun d hd => by
      simp only [List.mem_cons, List.mem_nil_iff, or_false] at hd
      rcases hd with rfl | rfl | rfl | rfl | rfl | rfl | rfl <;> first | exact stay_V | exact stay_B)) (Below.refl _ _).drew ?_
  refine rel_val _ rfl rfl (fun _ _ => rfl) (fun _ => ?_)
  simp only [Act.put, List.setIfInBounds_toArray, List.set_cons_zero, List.set_cons_succ]
  refine rel_val _ rfl rfl (fun _ _ => rfl) (fun _ => ?_)
  simp only [Act.put, List.setIfInBounds_toArray, List.set_cons_zero, List.set_cons_succ]
  refine rel_load 38 _ rfl (bg) (0) rfl (acells .u64 2 (g)) _ rfl rfl (fun w' hw' => (HG.out.later hw').whole) Tryd.underlying38 rfl (by rw [acells_size]; exact sizeC) (fun _ => ?_)
  simp only [Act.put, List.setIfInBounds_toArray, List.set_cons_zero, List.set_cons_succ]
  refine rel_val _ rfl rfl (fun _ _ => rfl) (fun _ => ?_)
  simp only [Act.put, List.setIfInBounds_toArray, List.set_cons_zero, List.set_cons_succ]
  refine rel_call (.agg (acells .u64 2 (cov F n))) 29 #[.slice (some ⟨b, o, none⟩) n c] rfl rfl rfl rfl (enters_of Tryd.func29 (by kernel_rfl) rfl) (fun w' hw' => l04Covered_some n hn F hF b o c w' (HI.out.later hw')) (fun _ => ?_)
  simp only [Act.put, List.setIfInBounds_toArray, List.set_cons_zero, List.set_cons_succ]
  refine rel_call (.agg (acells .u64 2 (joinC .andNot g (cov F n)))) 35 #[.agg (acells .u64 2 (g)), .agg (acells .u64 2 (cov F n))] rfl rfl rfl rfl (enters_of Tryd.func35 (by kernel_rfl) rfl) (fun w' _ => l04Less_any _ _ w') (fun _ => ?_)
  simp only [Act.put, List.setIfInBounds_toArray, List.set_cons_zero, List.set_cons_succ]
  refine rel_alloc (#[.int .u64 0, .int .u64 0]) 38 rfl rfl (fun _ => by rfl) (fun nb => ?_)
  simp only [Act.put, List.setIfInBounds_toArray, List.set_cons_zero, List.set_cons_succ]
  refine rel_nil (fun W1 inv => ?_)
  have hb1 := inv.cls
  obtain ⟨hge, B5⟩ := inv.blk (i := 6) rfl
  clear inv
  change wpList _ _ _ (_ :: []) _ _
  refine wpList_store_row rfl 38 _ _ rfl nb (acells .u64 2 (joinC .andNot g (cov F n))) rfl rfl 38 _ B5 (by rw [acells_size]; exact sizeC) (by rw [acells_size]; rfl) (acells_one _ _ _) ?_
  have B6 := B5.row (acells .u64 2 (joinC .andNot g (cov F n)))
  have hb2 := below_row hb1 hge (acells .u64 2 (joinC .andNot g (cov F n)))
  generalize World.setRow _ _ _ = W2 at B6 hb2 ⊢
  clear B5 hb1
  go_wp2_with (go_at_call 33; refine (listS _ nb _ B6).mono ?_; rintro e W3 ⟨q, c9, rfl, J, hb3⟩; have hb4 := hb2.trans (hb3.mono hb2.size))
  go_ret
  exact ⟨q, c9, rfl, J, hb4⟩
theorem bareOf_any (g : Nat → Int) (w : World) : Calls Tryd.prog 25 #[.agg (acells .u64 2 (g))] w fun e w' => e = .returned (.func (.func 44) #[] #[.pointer (some ⟨w.heap.size, 0, none⟩)]) ∧ w' = w.alloc (Obj.cells (acells .u64 2 (g)) 38) := by
  go_enter Tryd.func25, Tryd.ntmps25
  go_wp2_with fail
  go_ret
  exact ⟨rfl, rfl⟩
/-- What nets leave bare of targets. -/
def bareC (g : Nat → Int) (n : Nat) (F : Nat → Nat → Int) : Nat → Int := opC .andNot g (cov F n)
theorem bareC_N100 {g : Nat → Int} (hg : U64 g) (n : Nat) (F : Nat → Nat → Int) : N100 (bareC g n F) := by
  unfold bareC; rw [opC_cut]; exact cutC_N100 (less_u64 hg (cov_N100 F n).1)
theorem bareC_list {g : Nat → Int} (hg : U64 g) (n : Nat) (F : Nat → Nat → Int) : hlist (joinC .andNot g (cov F n)) 100 = hlist (bareC g n F) 100 :=
  hlist_congr 100 (Nat.le_refl _) (fun j hj => by unfold bareC; rw [opC_cut, hasC_cut (less_u64 hg (cov_N100 F n).1) hj])
set_option maxRecDepth 100000 in
set_option maxHeartbeats 2000000 in
theorem bare_closure (n : Nat) (hn : n ≤ 2 ^ 40) (F : Nat → Nat → Int) (hF : ∀ i, i < n → NetFits (F i)) (g : Nat → Int) (b o c bg : Nat) (w : World) (G0 : Blk w bg (acells .u64 2 (g)) 38) (I : InS w b o n ksNet F) :
    Calls Tryd.prog 44 #[.slice (some ⟨b, o, none⟩) n c, .pointer (some ⟨bg, 0, none⟩)] w fun e w' => e = .returned (.agg (acells .u64 2 (bareC g n F))) ∧ Below w.heap.size w w' := by
  have HI := Lib.hid I
  have HG := Lib.hid G0
  clear I G0
  go_enter Tryd.func44, Tryd.ntmps44
  go_upto_region 1 with (fail)
  rw [zero2]
  obtain ⟨W, hW, M⟩ := open1 w (acells .u64 2 (fun _ => 0)) 38
  rw [hW]; clear hW
  go_upto_region 2 with (first
    | (go_at_call 30; refine (layers_some n hn F hF b o c _ (HI.out.later M.below)).mono ?_; rintro e W3 ⟨rfl, hb3⟩; have M3 := M.call hb3; have M4 := (M3.alloc #[.int .u64 0, .int .u64 0] 38).alloc #[.int .u64 0, .int .u64 0] 38; rw [World.size_alloc] at M4)
    | (refine wpList_store_row rfl 38 _ _ rfl W3.heap.size (acells .u64 2 (cov F n)) rfl rfl 38 _ (M4.at 1 rfl) (by rw [acells_size]; exact sizeC) (by rw [acells_size]; rfl) (acells_one _ _ _) ?_)
    | (refine wpList_store_row rfl 38 _ _ rfl (W3.heap.size + 1) (acells .u64 2 (twi F n)) rfl rfl 38 _ ((M4.row 1 rfl (acells .u64 2 (cov F n))).at 2 rfl) (by rw [acells_size]; exact sizeC) (by rw [acells_size]; rfl) (acells_one _ _ _) ?_))
  have M5 := (M4.row 1 rfl (acells .u64 2 (cov F n))).row 2 rfl (acells .u64 2 (twi F n))
  generalize World.setRow _ _ _ = W5 at M5 ⊢
  have G5 := HG.out.later M5.below
  go_wp2_with (first
    | (refine wpList_load_part rfl 38 _ rfl bg 0 rfl (acells .u64 2 (g)) _ G5.whole Tryd.underlying38 rfl (by rw [acells_size]; exact sizeC) ?_)
    | (refine wpList_load_part rfl 38 _ rfl W3.heap.size 0 rfl (acells .u64 2 (cov F n)) _ (M5.at 1 rfl).whole Tryd.underlying38 rfl (by rw [acells_size]; exact sizeC) ?_)
    | (go_at_call 45; refine (implWithoutOf g (cov F n) _).mono ?_; rintro e W6 ⟨rfl, hb6⟩; have M6 := M5.call hb6; clear M5 G5 hb6)
    | (refine wpList_store_row rfl 38 _ _ rfl w.heap.size (acells .u64 2 (bareC g n F)) rfl rfl 38 _ (M6.at 0 rfl) (by rw [acells_size]; exact sizeC) (by simp only [acells_size]) (acells_one _ _ _) ?_))
  have M7 := M6.row 0 rfl (acells .u64 2 (bareC g n F))
  exact bodyPost_ret (results_cell_row rfl _ _ w.heap.size 38 _ _ _ rfl (M7.at 0 rfl) Tryd.underlying38 rfl (by rw [acells_size]; exact sizeC)) rfl ⟨rfl, M7.below⟩
end
section
open Go Go.RowKit

theorem codeT_cases (f : Fd) (n : Nat) (F : Nat → Nat → Int) (g : Nat → Int) (pk : Bool) : codeT f n F g pk = 0 ∨ codeT f n F g pk = 1 ∨ codeT f n F g pk = 2 ∨ codeT f n F g pk = 3 := by
  unfold codeT
  split
  · split
    · exact .inr (.inr (.inr rfl))
    · split
      · exact .inl rfl
      · exact .inr (.inr (.inl rfl))
  · exact .inr (.inl rfl)
def checkB (f : Fd) (n : Nat) (F : Nat → Nat → Int) (g : Nat → Int) : Bool := decide (codeT f n F g true = 0) && decide ((hlist (bareC g n F) 100).length = 0)
theorem checkB_no {f : Fd} {n : Nat} {F : Nat → Nat → Int} {g : Nat → Int} (h : codeT f n F g true ≠ 0) : checkB f n F g = false := by unfold checkB; rw [decide_eq_false h]; rfl
theorem checkB_yes {f : Fd} {n : Nat} {F : Nat → Nat → Int} {g : Nat → Int} (h : codeT f n F g true = 0) : checkB f n F g = decide ((hlist (bareC g n F) 100).length = 0) := by unfold checkB; rw [decide_eq_true h]; rfl
set_option maxRecDepth 100000 in
set_option maxHeartbeats 4000000 in
theorem specCheckNets (f : Fd) (hf : f.Wf) (n : Nat) (hn : n ≤ 2 ^ 40) (F : Nat → Nat → Int) (hF : ∀ i, i < n → WfN (F i)) (g : Nat → Int) (hgU : U64 g) (b o c : Nat) (w : World) (I : InS w b o n ksNet F) :
    Calls Tryd.prog 7 #[.agg (fcells f), .slice (some ⟨b, o, none⟩) n c, .agg (acells .u64 2 (g))] w fun e w' => e = .returned (.tuple #[.bool (checkB f n F g), .int .i64 (codeT f n F g true)]) ∧ Below w.heap.size w w' := by
  have HI := Lib.hid I
  clear I
  by_cases hc0 : codeT f n F g true = 0
  · obtain ⟨hok, hns, _⟩ := code_0 (codeT_zeroN hc0)
    have hfits := code_fits hok hns
    rw [checkB_yes hc0, hc0]
    have hc := Lib.hid hc0
    have hL := Lib.hid (bareC_list hgU n F)
    clear hc0
    obtain ⟨m, hm⟩ : ∃ m, (hlist (bareC g n F) 100).length = m := ⟨_, rfl⟩
    rw [hm]
    have HM := Lib.hid hm
    clear hm
    go_enter Tryd.func7, Tryd.ntmps7
    go_upto_region 1 with (fail)
    obtain ⟨W, hW, M⟩ := open2 w (fcells f) 34 (acells .u64 2 (g)) 38
    rw [hW]; clear hW
    go_wp2_with (first
      | (go_at_call 18; refine (l04Targets_any f hf n hn F hF g b o c w.heap.size (w.heap.size + 1) _ (M.at 0 rfl) (M.at 1 rfl) (HI.out.later M.below)).mono ?_; rintro e W2 ⟨rfl, hb⟩; rw [hc.out]; have M2 := M.call hb; clear M hb)
      | (go_at_call 19; refine (l04Bare_some n hn F hfits g b o c (w.heap.size + 1) _ (M2.at 1 rfl) (HI.out.later M2.below)).mono ?_; rintro e W3 ⟨q, c9, rfl, _, hb⟩; rw [hL.out, HM.out]; have M3 := M2.call hb; clear M2 hb))
    go_ret2
    refine ⟨?_, M3.below⟩
    rcases m with _ | m
    · rfl
    · first | rfl | (congr 3; done) | (congr 3; simp; done) | (congr 3; simp; omega)
  · rw [checkB_no hc0]
    obtain ⟨cd, hcd⟩ : ∃ cd, codeT f n F g true = cd := ⟨_, rfl⟩
    rw [hcd] at hc0 ⊢
    have hc := Lib.hid hcd
    have hne2 : (cd != 0) = true := by simpa using hc0
    clear hcd
    go_enter Tryd.func7, Tryd.ntmps7
    go_upto_region 1 with (fail)
    obtain ⟨W, hW, M⟩ := open2 w (fcells f) 34 (acells .u64 2 (g)) 38
    rw [hW]; clear hW
    go_wp2_with (go_at_call 18; refine (l04Targets_any f hf n hn F hF g b o c w.heap.size (w.heap.size + 1) _ (M.at 0 rfl) (M.at 1 rfl) (HI.out.later M.below)).mono ?_; rintro e W2 ⟨rfl, hb⟩; rw [hc.out]; have M2 := M.call hb; clear M hb)
    go_ret2
    exact ⟨rfl, M2.below⟩
set_option maxRecDepth 100000 in
set_option maxHeartbeats 4000000 in
theorem implCheckNets (f : Fd) (hf : f.Wf) (n : Nat) (hn : n ≤ 2 ^ 40) (F : Nat → Nat → Int) (hF : ∀ i, i < n → WfN (F i)) (g : Nat → Int) (hgU : U64 g) (b o c : Nat) (A : Nat → Addr) (w : World) (I : InS w b o n ksNet F) (S0 : Sents w A) :
    Calls Tryd.prog 11 #[.agg (fcells f), .slice (some ⟨b, o, none⟩) n c, .agg (acells .u64 2 (g))] w fun e w' => e = .returned (.tuple #[.bool (checkB f n F g), .int .i64 (codeT f n F g true)]) ∧ Below w.heap.size w w' := by
  have HI := Lib.hid I
  have S : Hid (Sents w A) := Lib.hid S0
  clear I S0
  have hif := isIfaceErr
  have bad : ∀ k : Nat, 1 ≤ k → k ≤ 8 → netErr A (codeT f n F g true) = errVal (A k) → Calls Tryd.prog 11 #[.agg (fcells f), .slice (some ⟨b, o, none⟩) n c, .agg (acells .u64 2 (g))] w fun e w' => e = .returned (.tuple #[.bool false, .int .i64 k]) ∧ Below w.heap.size w w' := by
    intro k h1 h8 hcode
    have hc := Lib.hid hcode
    clear hcode
    go_enter Tryd.func11, Tryd.ntmps11
    go_upto_region 1 with (fail)
    obtain ⟨W, hW, M⟩ := open2 w (fcells f) 34 (acells .u64 2 (g)) 38
    rw [hW]; clear hW
    go_wp2_with (first
      | (refine wpList_load_part rfl 34 _ rfl (w.heap.size) 0 rfl (fcells f) _ (M.at 0 rfl).whole Tryd.underlying34 rfl (by rw [fcells_size]; exact sizeFd) ?_)
      | (refine wpList_load_part rfl 38 _ rfl ((w.heap.size + 1)) 0 rfl (acells .u64 2 (g)) _ (M.at 1 rfl).whole Tryd.underlying38 rfl (by rw [acells_size]; exact sizeC) ?_)
      | (go_at_call 23; refine (checkNettingG f hf n hn F hF g (wf_of_u64 hgU) b o c A _ (HI.out.later M.below) (S.out.later M.below)).mono ?_; rintro e W2 ⟨rfl, hb⟩; rw [hc.out]; have M2 := M.call hb; go_wp2_with (go_at_call 24; refine (codeOf_err A k h1 h8 _ (S.out.later M2.below)).mono ?_; rintro e W3 ⟨rfl, rfl⟩)))
    go_ret2
    exact ⟨rfl, M2.below⟩
  by_cases hc0 : codeT f n F g true = 0
  · obtain ⟨hok, hns, _⟩ := code_0 (codeT_zeroN hc0)
    have hfits := code_fits hok hns
    have hcn : Hid (netErr A (codeT f n F g true) = .nilIface) := Lib.hid (by rw [hc0]; rfl)
    rw [checkB_yes hc0, hc0]
    clear bad hc0
    have hBU := bareC_N100 hgU n F
    have heq := Lib.hid (run_eqC (bareC g n F) (fun _ => 0) hBU.1 zero_N100.1 (decide ((hlist (bareC g n F) 100).length = 0)) (by
      rw [decide_eq_true_iff, List.length_eq_zero_iff]
      exact (none_iff hBU).symm))
    obtain ⟨qb, hqb⟩ : ∃ qb, decide ((hlist (bareC g n F) 100).length = 0) = qb := ⟨_, rfl⟩
    rw [hqb] at heq ⊢
    clear hqb hBU
    go_enter Tryd.func11, Tryd.ntmps11
    go_upto_region 1 with (fail)
    obtain ⟨W, hW, M⟩ := open2 w (fcells f) 34 (acells .u64 2 (g)) 38
    rw [hW]; clear hW
    go_wp2_with (first
      | (refine wpList_load_part rfl 34 _ rfl (w.heap.size) 0 rfl (fcells f) _ (M.at 0 rfl).whole Tryd.underlying34 rfl (by rw [fcells_size]; exact sizeFd) ?_)
      | (refine wpList_load_part rfl 38 _ rfl ((w.heap.size + 1)) 0 rfl (acells .u64 2 (g)) _ (M.at 1 rfl).whole Tryd.underlying38 rfl (by rw [acells_size]; exact sizeC) ?_)
      | (go_at_call 23; refine (checkNettingG f hf n hn F hF g (wf_of_u64 hgU) b o c A _ (HI.out.later M.below) (S.out.later M.below)).mono ?_; rintro e W2 ⟨rfl, hb⟩; rw [hcn.out]; have M2 := M.call hb; clear M hb; go_wp2_with (first
          | (go_at_call 25; refine (bareOf_any g _).mono ?_; rintro e W3 ⟨rfl, rfl⟩; have M3 := M2.alloc (acells .u64 2 (g)) 38)
          | (go_at_call 44; refine (bare_closure n hn F hfits g b o c W2.heap.size _ (Blk.new _ _ _) (HI.out.later M3.below)).mono ?_; rintro e W4 ⟨rfl, hb4⟩; have M4 := M3.call hb4; clear M3 hb4)
          | (refine wpList_eql rfl 38 _ _ _ rfl (acells .u64 2 (bareC g n F)) (acells .u64 2 (fun _ => 0)) rfl rfl (by kernel_rfl) qb (heq.out _) ?_)
          | (refine wpList_load_part rfl 38 _ rfl ((w.heap.size + 1)) 0 rfl (acells .u64 2 (g)) _ (M2.at 1 rfl).whole Tryd.underlying38 rfl (by rw [acells_size]; exact sizeC) ?_))))
    go_ret2
    exact ⟨rfl, M4.below⟩
  · rw [checkB_no hc0]
    rcases codeT_cases f n F g true with hc | hc | hc | hc
    · exact absurd hc hc0
    · rw [hc]; exact bad 1 (by omega) (by omega) (by rw [hc]; rfl)
    · rw [hc]; exact bad 2 (by omega) (by omega) (by rw [hc]; rfl)
    · rw [hc]; exact bad 3 (by omega) (by omega) (by rw [hc]; rfl)
end
end Go.Proofs.YtniibbgcdaijfaaDoor
