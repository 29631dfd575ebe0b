/-
  MoveFlock: the model's and the program's.
-/
import Derived.Test.YtmdfmbkchiafhaaDoorClF
import Derived.Test.YtmdfmbkchiafhaaDoorChkB
import Derived.Test.YtmdfmbkchiafhaaDoorCoreC
namespace Go.Proofs.YtmdfmbkchiafhaaDoor
open Go Go.RowKit

def setAtF (F : Nat → Nat → Int) (i j : Nat) (v : Int) : Nat → Nat → Int := fun p q => if p = i ∧ q = j then v else F p q
theorem Mem.oneF {w w' : World} {b : Nat} {cs : Array Value} {t : TypeId} (hb : Below w.heap.size w w') (hlo : w.heap.size ≤ b) (B : Blk w' b cs t) : Mem w w' [⟨b, cs, t⟩] := by
  refine ⟨hb, ?_, ?_⟩
  · intro i e h
    cases i with
    | zero => cases h; exact ⟨hlo, B⟩
    | succ i => cases h
  · intro i j e e' h h' hne
    cases i with
    | zero =>
      cases j with
      | zero => exact absurd rfl hne
      | succ j => cases h'
    | succ i => cases h
theorem cell_inF {f : Fd} {c : Int} (h : isCell f c = true) : 0 ≤ c ∧ c ≤ 99 := by
  obtain ⟨k, hk, rfl⟩ := cell_nat h
  omega
/-- What the rows hold. -/
def RowsF (F : Nat → Nat → Int) (n : Nat) (cs : Array Value) : Prop := n * 6 ≤ cs.size ∧ ∀ i, i < n → ∀ j, j < 6 → cs[i * 6 + j]? = some (sget ksFlock F i j)
theorem RowsF.put {F : Nat → Nat → Int} {n : Nat} {cs : Array Value} (h : RowsF F n cs) {i j : Nat} (hi : i < n) (hj : j < 6) (v : Int) : RowsF (setAtF F i j v) n (cs.setIfInBounds (i * 6 + j) (.int (ksFlock.getD j .i64) v)) := by
  refine ⟨by rw [Array.size_setIfInBounds]; exact h.1, fun p hp q hq => ?_⟩
  rw [Array.getElem?_setIfInBounds]
  by_cases e : i * 6 + j = p * 6 + q
  · obtain ⟨rfl, rfl⟩ : i = p ∧ j = q := by omega
    have := h.1
    rw [if_pos rfl, if_pos (by omega)]
    unfold sget setAtF
    rw [if_pos ⟨rfl, rfl⟩]
  · rw [if_neg e, h.2 p hp q hq]
    unfold sget setAtF
    rw [if_neg (by rintro ⟨rfl, rfl⟩; exact e rfl)]
theorem RowsF.start {F : Nat → Nat → Int} {n : Nat} {cs : Array Value} (h1 : n * ksFlock.length ≤ cs.size) (h2 : ∀ i, i < n → ∀ j, j < ksFlock.length → cs[i * ksFlock.length + j]? = some (sget ksFlock F i j)) : RowsF F n cs := ⟨h1, h2⟩
theorem RowsF.so {F : Nat → Nat → Int} {n : Nat} {cs : Array Value} (h : RowsF F n cs) {lo b : Nat} {w : World} {t : TypeId} (hlo : lo ≤ b) (B : Blk w b cs t) : SO ksFlock t lo w (some ⟨b, 0, none⟩) n F :=
  .inr ⟨b, cs, rfl, hlo, h.1, B, h.2⟩
/-- The flocks, one with another tree. -/
def mfRow (F : Nat → Nat → Int) (i c : Int) : Nat → Nat → Int := setAtF F i.toNat 0 c
def idxCode (f : Fd) (n : Nat) (F : Nat → Nat → Int) (i : Int) : Int := if okFlocks f n F then (if inB i 0 ((n : Int) - 1) then 0 else 2) else 1
theorem idx_cases (f : Fd) (n : Nat) (F : Nat → Nat → Int) (i : Int) : (idxCode f n F i = 0 ∧ okFlocks f n F = true ∧ inB i 0 ((n : Int) - 1) = true) ∨ (idxCode f n F i = 1 ∧ okFlocks f n F = false) ∨ (idxCode f n F i = 2 ∧ okFlocks f n F = true ∧ inB i 0 ((n : Int) - 1) = false) := by
  unfold idxCode
  cases h : okFlocks f n F with
  | false => exact .inr (.inl ⟨rfl, rfl⟩)
  | true =>
    cases h2 : inB i 0 ((n : Int) - 1) with
    | false => exact .inr (.inr ⟨rfl, rfl, rfl⟩)
    | true => exact .inl ⟨rfl, rfl, rfl⟩
def mfCode (f : Fd) (n : Nat) (F : Nat → Nat → Int) (i c : Int) : Int := if idxCode f n F i = 0 then (if isCell f c then (if treeAt f c then 0 else 4) else 2) else idxCode f n F i
def mfN (f : Fd) (n : Nat) (F : Nat → Nat → Int) (i c : Int) : Nat := if mfCode f n F i c = 0 then n else 0
theorem mfN_le (f : Fd) (n : Nat) (F : Nat → Nat → Int) (i c : Int) (hn : n ≤ 2 ^ 40) : mfN f n F i c ≤ 2 ^ 40 := by unfold mfN; split <;> omega
/-- The error of a code. -/
def errF (A : Nat → Addr) (code : Int) : Value := if code = 0 then .nilIface else errVal (A code.toNat)
theorem errF_nat (A : Nat → Addr) (k : Nat) (h : 1 ≤ k) : errF A (k : Int) = errVal (A k) := by unfold errF; rw [if_neg (by omega), Int.toNat_natCast]
theorem okF_flocks {f : Fd} {n : Nat} {F : Nat → Nat → Int} (h : okFlocks f n F = true) : okF f = true := by
  simp only [okFlocks, Bool.and_eq_true] at h; exact h.1.1
set_option maxRecDepth 100000 in
set_option maxHeartbeats 2000000 in
theorem l02Index_any (f : Fd) (hf : f.Wf) (n : Nat) (hn : n ≤ 2 ^ 40) (F : Nat → Nat → Int) (hF : WfS ksFlock n F) (i : Int) (bf d c : Nat) (w : World) (B : Blk w bf (fcells f) 34) (I : InS w d 0 n ksFlock F) :
    Calls Tryd.prog 63 #[.pointer (some ⟨bf, 0, none⟩), .slice (some ⟨d, 0, none⟩) n c, .int .i64 i] w fun e w' => e = .returned (.int .i64 (idxCode f n F i)) ∧ w = w' := by
  have HI := Lib.hid I
  have HB := Lib.hid B
  clear I B
  have hw : IntKind.i64.wrap ((n : Int) - 1) = (n : Int) - 1 := IntWalk.i64_in _ (by omega)
  rcases idx_cases f n F i with ⟨hc, h1, h2⟩ | ⟨hc, h1⟩ | ⟨hc, h1, h2⟩
  · rw [hc]
    go_enter Tryd.func63, Tryd.ntmps63
    go_wp2_with (first
      | (go_at_call 97; refine (l02Ok_any f hf n hn F hF bf d c _ HB.out HI.out).mono ?_; rintro e w1 ⟨rfl, rfl⟩; rw [h1])
      | (go_at_call 70; refine (l00In_any _ _ _ _).mono ?_; rintro e w1 ⟨rfl, rfl⟩; rw [h2]))
    go_ret
    exact ⟨rfl, rfl⟩
  · rw [hc]
    go_enter Tryd.func63, Tryd.ntmps63
    go_wp2_with ((go_at_call 97; refine (l02Ok_any f hf n hn F hF bf d c _ HB.out HI.out).mono ?_; rintro e w1 ⟨rfl, rfl⟩; rw [h1]))
    go_ret
    exact ⟨rfl, rfl⟩
  · rw [hc]
    go_enter Tryd.func63, Tryd.ntmps63
    go_wp2_with (first
      | (go_at_call 97; refine (l02Ok_any f hf n hn F hF bf d c _ HB.out HI.out).mono ?_; rintro e w1 ⟨rfl, rfl⟩; rw [h1])
      | (go_at_call 70; refine (l00In_any _ _ _ _).mono ?_; rintro e w1 ⟨rfl, rfl⟩; rw [h2]))
    go_ret
    exact ⟨rfl, rfl⟩
theorem hasFlock_any (n : Nat) (hn : n ≤ 2 ^ 40) (i : Int) (p : Option Addr) (c : Nat) (w : World) :
    Calls Tryd.prog 99 #[.slice p n c, .int .i64 i] w fun e w' => e = .returned (.bool (inB i 0 ((n : Int) - 1))) ∧ w = w' := by
  have e : inB i 0 ((n : Int) - 1) = (decide (0 ≤ i) && decide (i < (n : Int))) := by
    rw [Bool.eq_iff_iff, inB_iff, Bool.and_eq_true, decide_eq_true_eq, decide_eq_true_eq]; omega
  rw [e]
  by_cases h1 : 0 ≤ i
  · rw [decide_eq_true h1, Bool.true_and]
    go_enter Tryd.func99, Tryd.ntmps99
    go_wp2_with fail
    all_goals go_ret
    all_goals exact ⟨by simp_all, rfl⟩
  · rw [decide_eq_false h1, Bool.false_and]
    go_enter Tryd.func99, Tryd.ntmps99
    go_wp2_with fail
    all_goals go_ret
    all_goals exact ⟨by simp_all, rfl⟩
set_option maxRecDepth 100000 in
set_option maxHeartbeats 8000000 in
theorem specMoveFlock (f : Fd) (hf : f.Wf) (n : Nat) (hn : n ≤ 2 ^ 40) (F : Nat → Nat → Int) (hF : WfS ksFlock n F) (i : Int) (hib : -9223372036854775808 ≤ i ∧ i ≤ 9223372036854775807) (c : Int) (hcb : -9223372036854775808 ≤ c ∧ c ≤ 9223372036854775807) (b cap : Nat) (w : World) (I : InS w b 0 n ksFlock F) :
    Calls Tryd.prog 28 #[.agg (fcells f), .slice (some ⟨b, 0, none⟩) n cap, .int .i64 i, .int .i64 c] w fun e w' => ∃ p c', e = .returned (.tuple #[.slice p (mfN f n F i c) c', .int .i64 (mfCode f n F i c)]) ∧ SV ksFlock w.heap.size w'.heap.size w' p (mfN f n F i c) (mfRow F i c) ∧ SW ksFlock 103 w.heap.size w'.heap.size w' p (mfN f n F i c) ∧ Below w.heap.size w w' := by
  have HI := Lib.hid I
  clear I
  rcases (Decidable.em (idxCode f n F i = 0)).symm with hi0 | hi0
  · have hk : mfCode f n F i c = idxCode f n F i := by unfold mfCode; rw [if_neg hi0]
    have hN : mfN f n F i c = 0 := by unfold mfN; rw [hk, if_neg hi0]
    rw [hN, hk]
    obtain ⟨k, hk0⟩ : ∃ k, idxCode f n F i = k := ⟨_, rfl⟩
    have HC := Lib.hid hk0
    rw [hk0] at hi0 ⊢
    have hkb : (k != 0) = true := by simpa using hi0
    have hkc : (k == 0) = false := by simpa using hi0
    clear hk hN hk0 hi0
    go_enter Tryd.func28, Tryd.ntmps28
    go_upto_region 1 with (fail)
    obtain ⟨W, hW, M⟩ := open1 w (fcells f) 34
    rw [hW]; clear hW
    go_wp2_with (go_at_call 63; refine (l02Index_any f hf n hn F hF i w.heap.size b cap _ (M.at 0 rfl) (HI.out.later M.below)).mono ?_; rintro e w9 ⟨rfl, rfl⟩; rw [HC.out])
    go_ret2
    exact ⟨_, _, rfl, .inl rfl, .inl rfl, (M.alloc #[] 103).below⟩
  have HC := Lib.hid hi0
  cases hcl : isCell f c with
  | false =>
    have HCL := Lib.hid hcl
    have hk : mfCode f n F i c = 2 := by unfold mfCode; rw [if_pos hi0, hcl]; rfl
    have hN : mfN f n F i c = 0 := by unfold mfN; rw [hk]; rfl
    rw [hN, hk]
    clear hk hN hcl hi0
    go_enter Tryd.func28, Tryd.ntmps28
    go_upto_region 1 with (fail)
    obtain ⟨W, hW, M⟩ := open1 w (fcells f) 34
    rw [hW]; clear hW
    go_wp2_with (first
      | (go_at_call 63; refine (l02Index_any f hf n hn F hF i w.heap.size b cap _ (M.at 0 rfl) (HI.out.later M.below)).mono ?_; rintro e w9 ⟨rfl, rfl⟩; rw [HC.out])
      | (go_at_call 64; refine (l01Is_any f _ w.heap.size _ hf.W hf.H (M.at 0 rfl)).mono ?_; rintro e w9 ⟨rfl, rfl⟩; rw [HCL.out]))
    go_ret2
    exact ⟨_, _, rfl, .inl rfl, .inl rfl, (M.alloc #[] 103).below⟩
  | true =>
  have HCL := Lib.hid hcl
  cases ht : treeAt f c with
  | false =>
    have HT := Lib.hid ht
    have hk : mfCode f n F i c = 4 := by unfold mfCode; rw [if_pos hi0, hcl, ht]; rfl
    have hN : mfN f n F i c = 0 := by unfold mfN; rw [hk]; rfl
    rw [hN, hk]
    clear hk hN hcl hi0 ht
    go_enter Tryd.func28, Tryd.ntmps28
    go_upto_region 1 with (fail)
    obtain ⟨W, hW, M⟩ := open1 w (fcells f) 34
    rw [hW]; clear hW
    go_wp2_with (first
      | (go_at_call 63; refine (l02Index_any f hf n hn F hF i w.heap.size b cap _ (M.at 0 rfl) (HI.out.later M.below)).mono ?_; rintro e w9 ⟨rfl, rfl⟩; rw [HC.out])
      | (go_at_call 64; refine (l01Is_any f _ w.heap.size _ hf.W hf.H (M.at 0 rfl)).mono ?_; rintro e w9 ⟨rfl, rfl⟩; rw [HCL.out])
      | (go_at_call 65; refine (l02Tree_any f hf _ w.heap.size _ (M.at 0 rfl)).mono ?_; rintro e w9 ⟨rfl, rfl⟩; rw [HT.out]))
    go_ret2
    exact ⟨_, _, rfl, .inl rfl, .inl rfl, (M.alloc #[] 103).below⟩
  | true =>
    have HT := Lib.hid ht
    have hk : mfCode f n F i c = 0 := by unfold mfCode; rw [if_pos hi0, hcl, ht]; rfl
    have hN : mfN f n F i c = n := by unfold mfN; rw [hk]; rfl
    rw [hN, hk]
    have hin := cell_inF hcl
    obtain ⟨m, hm, rfl⟩ := cell_nat hcl
    have hpp : 0 ≤ i ∧ i < (n : Int) := by
      rcases idx_cases f n F i with ⟨_, _, h2⟩ | ⟨h, _⟩ | ⟨h, _⟩
      · have := inB_iff.1 h2; omega
      · omega
      · omega
    obtain ⟨k, rfl⟩ : ∃ k : Nat, i = k := ⟨i.toNat, by omega⟩
    have hkn : k < n := by omega
    clear hk hN hcl hi0 ht hpp
    have hm1 : IntKind.i16.wrap (m : Int) = m := IntWalk.i16_in _ (by omega)
    obtain ⟨i0, hi, hz0, hz1, hz2⟩ := info_parts Finfo
    go_enter Tryd.func28, Tryd.ntmps28
    go_upto_region 1 with (fail)
    obtain ⟨W, hW, M⟩ := open1 w (fcells f) 34
    rw [hW]; clear hW
    go_wp2_with (first
      | (go_at_call 63; refine (l02Index_any f hf n hn F hF _ w.heap.size b cap _ (M.at 0 rfl) (HI.out.later M.below)).mono ?_; rintro e w9 ⟨rfl, rfl⟩; rw [HC.out])
      | (go_at_call 64; refine (l01Is_any f _ w.heap.size _ hf.W hf.H (M.at 0 rfl)).mono ?_; rintro e w9 ⟨rfl, rfl⟩; rw [HCL.out])
      | (go_at_call 65; refine (l02Tree_any f hf _ w.heap.size _ (M.at 0 rfl)).mono ?_; rintro e w9 ⟨rfl, rfl⟩; rw [HT.out])
      | (at_builtin; refine wpList_append_own _ rfl _ _ 55 rfl w.heap.size 103 i0 (.agg #[.int .i16 0, .int .i16 0, .int .i16 0, .int .i16 0, .int .i16 0, .int .i8 0]) 6 12 Tryd.underlying55 hi hz0 hz1 hz2 rfl (by decide) _ _ _ rfl (World.ownsRow_made W #[] 0 M.below.size (Nat.zero_le _) (by simp)) ⟨b, 0, none⟩ n cap (scells ksFlock n F).toList rfl ?qc1 ?qc2 ?qc3 ?qc4 ?qc5 ?qc6 ?_))
    case qc1 => exact Slen _ _ _
    case qc2 =>
      intro j u hj
      exact Lib.cell?_alloc_some _ (Snews (by decide) (HI.out.later M.below) j u hj)
    case qc3 => exact Sone _ _ _
    case qc4 => rw [Nat.zero_add]; unfold maxLen; omega
    case qc5 => rw [Nat.zero_add]; omega
    case qc6 => have := M.below.size; simp; omega
    intro v' w1 hown hgrow hnil
    (try simp only [Nat.zero_add, List.nil_append] at hown)
    have hnn : v' ≠ .slice none 0 0 := by first | exact hnil | (intro e; have := hnil.1 e; simp at this)
    have hb := (M.below.alloc M.below.size (.cells #[] 103)).grown hgrow (by have := M.below.size; simp; omega) (by intro k hk; simp [Value.ownBlock] at hk; have := M.below.size; omega)
    obtain ⟨ob, c', rfl, hO⟩ := Sown' (ks := ksFlock) hown hnn
    clear hown hgrow hnil hnn
    obtain ⟨cs, hlo, hsz, B, hv⟩ : ∃ cs, w.heap.size ≤ ob ∧ n * ksFlock.length ≤ cs.size ∧ Blk w1 ob cs 103 ∧ (∀ i, i < n → ∀ j, j < ksFlock.length → cs[i * ksFlock.length + j]? = some (sget ksFlock F i j)) := by
      rcases hO with h0 | ⟨b9, cs, e9, h1, h2, h3, h4⟩
      · omega
      · cases e9; exact ⟨cs, h1, h2, h3, h4⟩
    have R0 := RowsF.start hsz hv
    have M5 := Mem.oneF hb hlo B
    have d0 := (M5.at 0 rfl).cell (i := k * 6) (R0.2 k hkn 0 (by decide))
    have e0 := (M5.at 0 rfl).free (k * 6)
    clear hO hsz hv B hb hi hz0 hz1 hz2 M
    go_wp2_with fail
    have R1 := R0.put hkn (j := 0) (by decide) (m : Int)
    have M6 := M5.set 0 (k * 6) (.int .i16 (m : Int)) rfl _ rfl
    go_ret2
    have HSO : SO ksFlock 103 w.heap.size _ (some ⟨ob, 0, none⟩) n (mfRow F (k : Int) (m : Int)) := R1.so hlo (M6.at 0 rfl)
    exact ⟨_, c', rfl, HSO.inS, HSO.sw, M6.below⟩
set_option maxRecDepth 100000 in
set_option maxHeartbeats 8000000 in
theorem checkMoving_any (f : Fd) (hf : f.Wf) (n : Nat) (hn : n ≤ 2 ^ 40) (F : Nat → Nat → Int) (hF : WfS ksFlock n F) (i : Int) (hib : -9223372036854775808 ≤ i ∧ i ≤ 9223372036854775807) (c : Int) (hcb : -9223372036854775808 ≤ c ∧ c ≤ 9223372036854775807) (b cap : Nat) (A : Nat → Addr) (w : World) (I : InS w b 0 n ksFlock F) (T0 : TabAt w) (S0 : Sents w A) :
    Calls Tryd.prog 67 #[.agg (fcells f), .slice (some ⟨b, 0, none⟩) n cap, .int .i64 i, .int .i64 c] w fun e w' => e = .returned (errF A (mfCode f n F i c)) ∧ Below w.heap.size w w' := by
  have HI := Lib.hid I
  have S : Hid (Sents w A) := Lib.hid S0
  have T : Hid (TabAt w) := Lib.hid T0
  clear I S0 T0
  have hif := isIfaceErr
  obtain ⟨hc1, hc2⟩ := hcb
  rcases idx_cases f n F i with ⟨hi0, ho, hp⟩ | ⟨hi0, ho⟩ | ⟨hi0, ho, hp⟩
  rotate_left
  · rw [show errF A (mfCode f n F i c) = errVal (A 1) by unfold mfCode; rw [hi0]; rfl]
    have HB : Hid (errIf A 1 (okFlocks f n F) = errVal (A 1)) := Lib.hid (by rw [ho]; rfl)
    clear hi0 ho
    go_enter Tryd.func67, Tryd.ntmps67
    go_upto_region 1 with (fail)
    obtain ⟨W, hW, M⟩ := open1 w (fcells f) 34
    rw [hW]; clear hW
    go_wp2_with (first
      | (refine wpList_load_part rfl 34 _ rfl w.heap.size 0 rfl (fcells f) _ (M.at 0 rfl).whole Tryd.underlying34 rfl (by rw [fcells_size]; exact sizeFd) ?_)
      | (go_at_call 98; refine (checkBirds0 f hf n hn F hF A b cap _ (T.out.later M.below) (S.out.later M.below) (HI.out.later M.below)).mono ?_; rintro e W2 ⟨rfl, hb⟩; rw [HB.out]; have M2 := M.call hb; have hv2 := (S.out.later M2.below).v2; have hv4 := (S.out.later M2.below).v4; clear M hb))
    go_ret
    exact ⟨rfl, M2.below⟩
  · rw [show errF A (mfCode f n F i c) = errVal (A 2) by unfold mfCode; rw [hi0]; rfl]
    have HB : Hid (errIf A 1 (okFlocks f n F) = .nilIface) := Lib.hid (by rw [ho]; rfl)
    have HP := Lib.hid hp
    clear hi0 ho hp
    go_enter Tryd.func67, Tryd.ntmps67
    go_upto_region 1 with (fail)
    obtain ⟨W, hW, M⟩ := open1 w (fcells f) 34
    rw [hW]; clear hW
    go_wp2_with (first
      | (refine wpList_load_part rfl 34 _ rfl w.heap.size 0 rfl (fcells f) _ (M.at 0 rfl).whole Tryd.underlying34 rfl (by rw [fcells_size]; exact sizeFd) ?_)
      | (go_at_call 98; refine (checkBirds0 f hf n hn F hF A b cap _ (T.out.later M.below) (S.out.later M.below) (HI.out.later M.below)).mono ?_; rintro e W2 ⟨rfl, hb⟩; rw [HB.out]; have M2 := M.call hb; have hv2 := (S.out.later M2.below).v2; have hv4 := (S.out.later M2.below).v4; clear M hb)
      | (go_at_call 99; refine (hasFlock_any n hn i _ cap _).mono ?_; rintro e W3 ⟨rfl, rfl⟩; rw [HP.out]))
    go_ret
    exact ⟨rfl, M2.below⟩
  have hok := okF_flocks ho
  have hH : f.H ≤ 10 := (okF_size hok).2.2.2
  have HB : Hid (errIf A 1 (okFlocks f n F) = .nilIface) := Lib.hid (by rw [ho]; rfl)
  have HP := Lib.hid hp
  cases hcl : isCell f c with
  | false =>
    rw [show errF A (mfCode f n F i c) = errVal (A 2) by unfold mfCode; rw [hi0, hcl]; rfl]
    have HCL := Lib.hid hcl
    clear hi0 ho hp hcl hok
    go_enter Tryd.func67, Tryd.ntmps67
    go_upto_region 1 with (fail)
    obtain ⟨W, hW, M⟩ := open1 w (fcells f) 34
    rw [hW]; clear hW
    go_wp2_with (first
      | (refine wpList_load_part rfl 34 _ rfl w.heap.size 0 rfl (fcells f) _ (M.at 0 rfl).whole Tryd.underlying34 rfl (by rw [fcells_size]; exact sizeFd) ?_)
      | (go_at_call 98; refine (checkBirds0 f hf n hn F hF A b cap _ (T.out.later M.below) (S.out.later M.below) (HI.out.later M.below)).mono ?_; rintro e W2 ⟨rfl, hb⟩; rw [HB.out]; have M2 := M.call hb; have hv2 := (S.out.later M2.below).v2; have hv4 := (S.out.later M2.below).v4; clear M hb)
      | (go_at_call 99; refine (hasFlock_any n hn i _ cap _).mono ?_; rintro e W3 ⟨rfl, rfl⟩; rw [HP.out])
      | (refine wpList_load_wanted rfl 34 _ rfl w.heap.size 0 rfl (fcells f) _ (M2.at 0 rfl).whole Tryd.underlying34 rfl (by rw [fcells_size]; exact sizeFd) ?_)
      | (go_at_call 100; refine (fieldHas_any f hf hH c hc1 hc2 _).mono ?_; rintro e W4 ⟨rfl, hb⟩; rw [HCL.out]; have M4 := M2.call hb; have hv2 := (S.out.later M4.below).v2; have hv4 := (S.out.later M4.below).v4; clear M2 hb))
    go_ret
    exact ⟨rfl, M4.below⟩
  | true =>
  have HCL := Lib.hid hcl
  have hin := cell_inF hcl
  obtain ⟨m, hm, rfl⟩ := cell_nat hcl
  have hKb := hf.K m hm
  have htr : treeAt f (m : Int) = (f.K m == 3) := by unfold treeAt; rw [hcl, Bool.true_and, Int.toNat_natCast]
  have hm2 : (m : Int) < 100 := by omega
  by_cases hK : f.K m = 3
  · rw [show errF A (mfCode f n F i (m : Int)) = .nilIface by unfold mfCode; rw [hi0, hcl, htr, hK]; rfl]
    clear hi0 ho hp hcl hok htr hin
    go_enter Tryd.func67, Tryd.ntmps67
    go_upto_region 1 with (fail)
    obtain ⟨W, hW, M⟩ := open1 w (fcells f) 34
    rw [hW]; clear hW
    go_wp2_with (first
      | (refine wpList_load_part rfl 34 _ rfl w.heap.size 0 rfl (fcells f) _ (M.at 0 rfl).whole Tryd.underlying34 rfl (by rw [fcells_size]; exact sizeFd) ?_)
      | (go_at_call 98; refine (checkBirds0 f hf n hn F hF A b cap _ (T.out.later M.below) (S.out.later M.below) (HI.out.later M.below)).mono ?_; rintro e W2 ⟨rfl, hb⟩; rw [HB.out]; have M2 := M.call hb; have hv2 := (S.out.later M2.below).v2; have hv4 := (S.out.later M2.below).v4; clear M hb)
      | (go_at_call 99; refine (hasFlock_any n hn i _ cap _).mono ?_; rintro e W3 ⟨rfl, rfl⟩; rw [HP.out])
      | (refine wpList_load_wanted rfl 34 _ rfl w.heap.size 0 rfl (fcells f) _ (M2.at 0 rfl).whole Tryd.underlying34 rfl (by rw [fcells_size]; exact sizeFd) ?_)
      | (go_at_call 100; refine (fieldHas_any f hf hH (m : Int) (by omega) (by omega) _).mono ?_; rintro e W4 ⟨rfl, hb⟩; rw [HCL.out]; have M4 := M2.call hb; have hv2 := (S.out.later M4.below).v2; have hv4 := (S.out.later M4.below).v4; clear M2 hb; have cK := (M4.at 0 rfl).cell (fcells_K f m hm)))
    go_ret
    exact ⟨rfl, M4.below⟩
  · rw [show errF A (mfCode f n F i (m : Int)) = errVal (A 4) by unfold mfCode; rw [hi0, hcl, htr, show (f.K m == 3) = false by simpa using hK]; rfl]
    clear hi0 ho hp hcl hok htr hin
    go_enter Tryd.func67, Tryd.ntmps67
    go_upto_region 1 with (fail)
    obtain ⟨W, hW, M⟩ := open1 w (fcells f) 34
    rw [hW]; clear hW
    go_wp2_with (first
      | (refine wpList_load_part rfl 34 _ rfl w.heap.size 0 rfl (fcells f) _ (M.at 0 rfl).whole Tryd.underlying34 rfl (by rw [fcells_size]; exact sizeFd) ?_)
      | (go_at_call 98; refine (checkBirds0 f hf n hn F hF A b cap _ (T.out.later M.below) (S.out.later M.below) (HI.out.later M.below)).mono ?_; rintro e W2 ⟨rfl, hb⟩; rw [HB.out]; have M2 := M.call hb; have hv2 := (S.out.later M2.below).v2; have hv4 := (S.out.later M2.below).v4; clear M hb)
      | (go_at_call 99; refine (hasFlock_any n hn i _ cap _).mono ?_; rintro e W3 ⟨rfl, rfl⟩; rw [HP.out])
      | (refine wpList_load_wanted rfl 34 _ rfl w.heap.size 0 rfl (fcells f) _ (M2.at 0 rfl).whole Tryd.underlying34 rfl (by rw [fcells_size]; exact sizeFd) ?_)
      | (go_at_call 100; refine (fieldHas_any f hf hH (m : Int) (by omega) (by omega) _).mono ?_; rintro e W4 ⟨rfl, hb⟩; rw [HCL.out]; have M4 := M2.call hb; have hv2 := (S.out.later M4.below).v2; have hv4 := (S.out.later M4.below).v4; clear M2 hb; have cK := (M4.at 0 rfl).cell (fcells_K f m hm)))
    go_ret
    exact ⟨rfl, M4.below⟩
set_option maxRecDepth 100000 in
set_option maxHeartbeats 8000000 in
theorem implMoveFlock (f : Fd) (hf : f.Wf) (n : Nat) (hn : n ≤ 2 ^ 40) (F : Nat → Nat → Int) (hF : WfS ksFlock n F) (i : Int) (hib : -9223372036854775808 ≤ i ∧ i ≤ 9223372036854775807) (c : Int) (hcb : -9223372036854775808 ≤ c ∧ c ≤ 9223372036854775807) (b cap : Nat) (A : Nat → Addr) (w : World) (I : InS w b 0 n ksFlock F) (T0 : TabAt w) (S0 : Sents w A) :
    Calls Tryd.prog 30 #[.agg (fcells f), .slice (some ⟨b, 0, none⟩) n cap, .int .i64 i, .int .i64 c] w fun e w' => ∃ p c', e = .returned (.tuple #[.slice p (mfN f n F i c) c', .int .i64 (mfCode f n F i c)]) ∧ SV ksFlock w.heap.size w'.heap.size w' p (mfN f n F i c) (mfRow F i c) ∧ SW ksFlock 103 w.heap.size w'.heap.size w' p (mfN f n F i c) ∧ Below w.heap.size w w' := by
  have HI := Lib.hid I
  have S : Hid (Sents w A) := Lib.hid S0
  have T : Hid (TabAt w) := Lib.hid T0
  clear I S0 T0
  have hif := isIfaceErr
  have hib2 := hib
  have bad : ∀ k : Nat, 1 ≤ k → k ≤ 8 → mfCode f n F i c = k → Calls Tryd.prog 30 #[.agg (fcells f), .slice (some ⟨b, 0, none⟩) n cap, .int .i64 i, .int .i64 c] w fun e w' => ∃ p c', e = .returned (.tuple #[.slice p (mfN f n F i c) c', .int .i64 (mfCode f n F i c)]) ∧ SV ksFlock w.heap.size w'.heap.size w' p (mfN f n F i c) (mfRow F i c) ∧ SW ksFlock 103 w.heap.size w'.heap.size w' p (mfN f n F i c) ∧ Below w.heap.size w w' := by
    intro k h1 h8 hk
    have HE : Hid (errF A (mfCode f n F i c) = errVal (A k)) := Lib.hid (by rw [hk]; exact errF_nat A k h1)
    have hN : mfN f n F i c = 0 := by unfold mfN; rw [hk, if_neg (by omega)]
    rw [hN, hk]
    clear hN hk
    go_enter Tryd.func30, Tryd.ntmps30
    go_upto_region 1 with (fail)
    obtain ⟨W, hW, M⟩ := open1 w (fcells f) 34
    rw [hW]; clear hW
    go_wp2_with (first
      | (refine wpList_load_part rfl 34 _ rfl w.heap.size 0 rfl (fcells f) _ (M.at 0 rfl).whole Tryd.underlying34 rfl (by rw [fcells_size]; exact sizeFd) ?_)
      | (go_at_call 67; refine (checkMoving_any f hf n hn F hF i hib2 c hcb b cap A _ (HI.out.later M.below) (T.out.later M.below) (S.out.later M.below)).mono ?_; rintro e W2 ⟨rfl, hb⟩; rw [HE.out]; have M2 := M.call hb; clear M hb)
      | (go_at_call 45; refine (codeOf_err A k h1 h8 _ (S.out.later M2.below)).mono ?_; rintro e W3 ⟨rfl, rfl⟩))
    go_ret2
    exact ⟨_, _, rfl, .inl rfl, .inl rfl, M2.below⟩
  rcases (Decidable.em (idxCode f n F i = 0)).symm with hi0 | hi0
  · have hk : mfCode f n F i c = idxCode f n F i := by unfold mfCode; rw [if_neg hi0]
    rcases idx_cases f n F i with ⟨h, _⟩ | ⟨h, _⟩ | ⟨h, _⟩
    · exact absurd h hi0
    · exact bad 1 (by omega) (by omega) (by rw [hk, h]; rfl)
    · exact bad 2 (by omega) (by omega) (by rw [hk, h]; rfl)
  cases hcl : isCell f c with
  | false => exact bad 2 (by omega) (by omega) (by unfold mfCode; rw [if_pos hi0, hcl]; rfl)
  | true =>
  cases ht : treeAt f c with
  | false => exact bad 4 (by omega) (by omega) (by unfold mfCode; rw [if_pos hi0, hcl, ht]; rfl)
  | true =>
    have hk0 : mfCode f n F i c = 0 := by unfold mfCode; rw [if_pos hi0, hcl, ht]; rfl
    have hN : mfN f n F i c = n := by unfold mfN; rw [hk0]; rfl
    have HE : Hid (errF A (mfCode f n F i c) = .nilIface) := Lib.hid (by rw [hk0]; rfl)
    rw [hN, hk0]
    have hin := cell_inF hcl
    have hpp : 0 ≤ i ∧ i < (n : Int) := by
      rcases idx_cases f n F i with ⟨_, _, h2⟩ | ⟨h, _⟩ | ⟨h, _⟩
      · have := inB_iff.1 h2; omega
      · omega
      · omega
    obtain ⟨k, rfl⟩ : ∃ k : Nat, i = k := ⟨i.toNat, by omega⟩
    have hkn : k < n := by omega
    have hm1 : IntKind.i16.wrap c = c := IntWalk.i16_in _ (by omega)
    clear bad hk0 hN hcl hi0 ht hpp hin
    go_enter Tryd.func30, Tryd.ntmps30
    go_upto_region 1 with (fail)
    obtain ⟨W, hW, M⟩ := open1 w (fcells f) 34
    rw [hW]; clear hW
    go_upto_region 5 with (first
      | (refine wpList_load_part rfl 34 _ rfl w.heap.size 0 rfl (fcells f) _ (M.at 0 rfl).whole Tryd.underlying34 rfl (by rw [fcells_size]; exact sizeFd) ?_)
      | (go_at_call 67; refine (checkMoving_any f hf n hn F hF _ hib2 c hcb b cap A _ (HI.out.later M.below) (T.out.later M.below) (S.out.later M.below)).mono ?_; rintro e W2 ⟨rfl, hb⟩; rw [HE.out]; have M2 := M.call hb; clear M hb)
      | (go_at_call 68; refine (Fclone_any n hn F b cap _ (HI.out.later M2.below)).mono ?_; rintro e W4 ⟨ob, c', rfl, hO, hb⟩; have M4 := M2.call hb; have hbs := M2.below.size; have HO := Lib.hid (hO.weak hbs); clear hb hO))
    obtain ⟨cs, hlo, hsz, B, hv⟩ : ∃ cs, w.heap.size ≤ ob ∧ n * ksFlock.length ≤ cs.size ∧ Blk W4 ob cs 103 ∧ (∀ i, i < n → ∀ j, j < ksFlock.length → cs[i * ksFlock.length + j]? = some (sget ksFlock F i j)) := by
      rcases HO.out with h0 | ⟨b9, cs, e9, h1, h2, h3, h4⟩
      · omega
      · cases e9; exact ⟨cs, h1, h2, h3, h4⟩
    have R0 := RowsF.start hsz hv
    have M5 := Mem.oneF M4.below hlo B
    have d0 := (M5.at 0 rfl).cell (i := k * 6) (R0.2 k hkn 0 (by decide))
    have e0 := (M5.at 0 rfl).free (k * 6)
    clear HO hsz hv B M2 M4 hbs
    go_wp2_with fail
    have R1 := R0.put hkn (j := 0) (by decide) c
    have M6 := M5.set 0 (k * 6) (.int .i16 c) rfl _ rfl
    go_ret2
    have HSO : SO ksFlock 103 w.heap.size _ (some ⟨ob, 0, none⟩) n (mfRow F (k : Int) c) := R1.so hlo (M6.at 0 rfl)
    exact ⟨_, c', rfl, HSO.inS, HSO.sw, M6.below⟩
end Go.Proofs.YtmdfmbkchiafhaaDoor
