/-
  The soil cells to which no flock would go.
-/
import Derived.Test.YtaioflkonpommaaDoorCfr
import Derived.Test.YtaioflkonpommaaDoorKSet
import Derived.Test.YtaioflkonpommaaDoorSetB
import Derived.Test.YtaioflkonpommaaDoorSetN
import Derived.Test.YtaioflkonpommaaDoorSets2
namespace Go.Proofs.YtaioflkonpommaaDoor
open Go Go.RowKit

theorem bit_noF {F : Nat → Int} (hF : N100 F) {i k x : Nat} (hi : i < 2) (e : F i = (x : Int)) (hk : ¬ 64 * i + k < 100 ∨ ¬ k < 64) : x.testBit k = false := by
  have h2 := (hF.1 i).2
  rcases Nat.lt_or_ge i 1 with h0 | h0
  · obtain rfl : i = 0 := by omega
    have hx : x < 2 ^ 64 := by rw [← p64]; omega
    exact Nat.testBit_lt_two_pow (Nat.lt_of_lt_of_le hx (Nat.pow_le_pow_right (by omega) (by omega)))
  · obtain rfl : i = 1 := by omega
    have h3 := hF.2
    have hx : x < 2 ^ 36 := by rw [← p36]; omega
    exact Nat.testBit_lt_two_pow (Nat.lt_of_lt_of_le hx (Nat.pow_le_pow_right (by omega) (by omega)))
/-- Two sets that have the same numbers are the same. -/
theorem set_extF {f g : Nat → Int} (hf : N100 f) (hg : N100 g) (h : ∀ j : Nat, j < 100 → hasC f (j : Int) = hasC g (j : Int)) : acells .u64 2 f = acells .u64 2 g := acells_congr (fun i hi => by
  obtain ⟨a, ea, ha⟩ := nat_of hf.1 i
  obtain ⟨b, eb, hb⟩ := nat_of hg.1 i
  rw [ea, eb]
  have e : a = b := Nat.eq_of_testBit_eq (fun k => by
    by_cases hk : 64 * i + k < 100 ∧ k < 64
    · have h1 := h (64 * i + k) hk.1
      rw [hasC_bit (a := a) hk.1 (by rw [show (64 * i + k) / 64 = i by omega]; exact ea) ha, hasC_bit (a := b) hk.1 (by rw [show (64 * i + k) / 64 = i by omega]; exact eb) hb, show (64 * i + k) % 64 = k by omega] at h1
      exact h1
    · have hk' : ¬ 64 * i + k < 100 ∨ ¬ k < 64 := by omega
      rw [bit_noF hf hi ea hk', bit_noF hg hi eb hk'])
  rw [e])
theorem want_N100F (f : Fd) (q : Nat → Bool) : ∀ n, n ≤ 100 → N100 (wantSet f q n)
  | 0, _ => zero_N100
  | n + 1, h => by
    cases e : (isCell f n && q n) with
    | true =>
      have e' := e
      simp only [Bool.and_eq_true] at e'
      rw [wantSet_yes e'.1 e'.2]; exact putC_N100 (want_N100F f q n (by omega)) (by omega)
    | false => rw [wantSet_no e]; exact want_N100F f q n (by omega)
theorem allTo_moreF (k : Nat) (p : Nat → Bool) : allTo (k + 1) p = (allTo k p && p k) := by unfold allTo; rw [List.range_succ, List.all_append]; simp
theorem kindSet_want (f : Fd) (v : Int) : ∀ n, kindSet f v n = wantSet f (fun k => f.K k == v) n
  | 0 => rfl
  | n + 1 => by rw [kindSet, wantSet, kindSet_want f v n]
/-- What is safe from the first flocks. -/
def sfQ (f : Fd) (g : Nat → Int) (F : Nat → Nat → Int) (n : Nat) (k : Nat) : Bool := f.K k == 0 && allTo n (fun i => !wldQ f g (F i) k)
def sfS (f : Fd) (g : Nat → Int) (F : Nat → Nat → Int) : Nat → Nat → Int
  | 0 => kindSet f 0 100
  | j + 1 => joinC .andNot (sfS f g F j) (wantSet f (wldQ f g (F j)) 100)
theorem sfS_N100 (f : Fd) (g : Nat → Int) (F : Nat → Nat → Int) : ∀ j, N100 (sfS f g F j)
  | 0 => by rw [sfS, kindSet_want]; exact want_N100F f _ 100 (Nat.le_refl _)
  | j + 1 => by rw [sfS]; exact less_N100 (sfS_N100 f g F j) (want_u64 f _ 100)
theorem sfS_has (f : Fd) (g : Nat → Int) (F : Nat → Nat → Int) {c : Nat} (hc : c < 100) : ∀ j, hasC (sfS f g F j) (c : Int) = (isCell f (c : Int) && sfQ f g F j c)
  | 0 => by
    rw [sfS, kindSet_want, hasC_want f _ hc, decide_eq_true hc, Bool.true_and]
    unfold sfQ
    rw [show allTo 0 (fun i => !wldQ f g (F i) c) = true from rfl, Bool.and_true]
  | j + 1 => by
    rw [sfS, hasC_less (sfS_N100 f g F j).1 (want_u64 f _ 100) hc, sfS_has f g F hc j, hasC_want f _ hc, decide_eq_true hc, Bool.true_and]
    unfold sfQ
    rw [allTo_moreF]
    cases isCell f (c : Int) <;> cases f.K c == 0 <;> cases allTo j (fun i => !wldQ f g (F i) c) <;> cases wldQ f g (F j) c <;> rfl
theorem sfS_want (f : Fd) (g : Nat → Int) (F : Nat → Nat → Int) (n : Nat) : acells .u64 2 (sfS f g F n) = acells .u64 2 (wantSet f (sfQ f g F n) 100) :=
  set_extF (sfS_N100 f g F n) (want_N100F f _ 100 (Nat.le_refl _)) (fun c hc => by rw [sfS_has f g F hc, hasC_want f _ hc, decide_eq_true hc, Bool.true_and])
def alOk (f : Fd) (g : Nat → Int) (n : Nat) (F : Nat → Nat → Int) : Bool := okFears f g && okFlocks f n F
def alCode (f : Fd) (g : Nat → Int) (n : Nat) (F : Nat → Nat → Int) : Int := if alOk f g n F then 0 else 1
theorem al_parts {f : Fd} {g : Nat → Int} {n : Nat} {F : Nat → Nat → Int} (h : alOk f g n F = true) : okF f = true ∧ n ≤ 12 ∧ ∀ i, i < n → flockOk f (F i) = true := by
  unfold alOk okFlocks at h
  simp only [Bool.and_eq_true, decide_eq_true_eq] at h
  exact ⟨h.2.1.1, h.2.2, allTo_iff.1 h.2.1.2⟩
theorem okBirdsL (f : Fd) (g : Nat → Int) (n : Nat) (F : Nat → Nat → Int) : (okFlocks f n F && allTo 100 (fearOk f g)) = alOk f g n F := by
  unfold alOk okFears okFlocks
  cases okF f <;> cases allTo n (fun i => flockOk f (F i)) <;> cases decide (n ≤ 12) <;> cases allTo 100 (fearOk f g) <;> rfl
set_option maxRecDepth 100000 in
theorem l02All_any (f : Fd) (hf : f.Wf) (g : Nat → Int) (hg : Wf16 g) (n : Nat) (hn : n ≤ 2 ^ 40) (F : Nat → Nat → Int) (hF : WfS ksFlock n F) (b c d cp : Nat) (w : World) (B : Blk w b (fcells f) 30) (G : Blk w c (acells .i16 100 g) 36) (I : InS w d 0 n ksFlock F) :
    Calls Tryd.prog 53 #[.pointer (some ⟨b, 0, none⟩), .pointer (some ⟨c, 0, none⟩), .slice (some ⟨d, 0, none⟩) n cp] w fun e w' => e = .returned (.int .i64 (alCode f g n F)) ∧ w = w' := by
  have HB := Lib.hid B
  have HG := Lib.hid G
  have HI := Lib.hid I
  clear B G I
  unfold alCode alOk
  cases h1 : okFears f g with
  | false =>
    rw [Bool.false_and, if_neg (by decide)]
    go_enter Tryd.func53, Tryd.ntmps53
    go_wp2_with (go_at_call 64; refine (l02Fears_any f hf g hg b c _ HB.out HG.out).mono ?_; rintro e w1 ⟨rfl, rfl⟩; rw [h1])
    go_ret
    exact ⟨rfl, rfl⟩
  | true =>
    rw [Bool.true_and]
    have H1 := Lib.hid h1
    clear h1
    cases h2 : okFlocks f n F with
    | false =>
      rw [if_neg (by decide)]
      go_enter Tryd.func53, Tryd.ntmps53
      go_wp2_with (first
        | (go_at_call 64; refine (l02Fears_any f hf g hg b c _ HB.out HG.out).mono ?_; rintro e w1 ⟨rfl, rfl⟩; rw [H1.out])
        | (go_at_call 59; refine (l02Ok_any f hf n hn F hF b d cp _ HB.out HI.out).mono ?_; rintro e w1 ⟨rfl, rfl⟩; rw [h2]))
      go_ret
      exact ⟨rfl, rfl⟩
    | true =>
      rw [if_pos rfl]
      go_enter Tryd.func53, Tryd.ntmps53
      go_wp2_with (first
        | (go_at_call 64; refine (l02Fears_any f hf g hg b c _ HB.out HG.out).mono ?_; rintro e w1 ⟨rfl, rfl⟩; rw [H1.out])
        | (go_at_call 59; refine (l02Ok_any f hf n hn F hF b d cp _ HB.out HI.out).mono ?_; rintro e w1 ⟨rfl, rfl⟩; rw [h2]))
      go_ret
      exact ⟨rfl, rfl⟩
def sfVal (f : Fd) (g : Nat → Int) (n : Nat) (F : Nat → Nat → Int) : Nat → Int := if alOk f g n F then wantSet f (sfQ f g F n) 100 else fun _ => 0
end Go.Proofs.YtaioflkonpommaaDoor
