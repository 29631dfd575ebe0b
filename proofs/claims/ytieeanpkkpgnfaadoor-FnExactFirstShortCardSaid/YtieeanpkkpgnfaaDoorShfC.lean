/-
  Shifts: whether they are enough, and where they are not: the program's.
-/
import Derived.Test.YtieeanpkkpgnfaaDoorShfL
namespace Go.Proofs.YtieeanpkkpgnfaaDoor
open Go Go.RowKit

set_option maxRecDepth 100000 in
set_option maxHeartbeats 4000000 in
theorem implCheckShifts (n : Nat) (hn : n ≤ 2 ^ 40) (g : Nat → Int) (hg : Wf64 n g) (L : Int) (hL : -9223372036854775808 ≤ L ∧ L ≤ 9223372036854775807) (m : Nat) (hm : m ≤ 2 ^ 40) (h : Nat → Int) (hh : Wf64 m h) (b c b2 c2 : Nat) (A : Nat → Addr) (w : World) (I : InI w b 0 n g) (I2 : InI w b2 0 m h) (S0 : Sents w A) :
    Calls Tryd.prog 14 #[.slice (some ⟨b, 0, none⟩) n c, .int .i64 L, .slice (some ⟨b2, 0, none⟩) m c2] w fun e w' => e = .returned (.tuple #[.bool (shOk g n L h m && (lackAt g n L h m).isNone), .int .i64 (shCode (shOk g n L h m))]) ∧ Below w.heap.size w w' := by
  have S : Hid (Sents w A) := Lib.hid S0
  clear S0
  have hif := isIfaceErr
  cases hq : shOk g n L h m with
  | false =>
    have HQ := Lib.hid hq
    clear hq
    go_enter Tryd.func14, Tryd.ntmps14
    go_wp2_with (first
      | (go_at_call 23; refine (shiftsFor_any n hn g hg L hL m hm h hh b c b2 c2 A _ I I2 S.out).mono ?_; rintro e w1 ⟨hO, hb⟩; rcases hO with ⟨x, _⟩ | ⟨_, rfl⟩; exact absurd (x.symm.trans HQ.out) (by decide); have HB := Lib.hid hb; clear hb)
      | (go_at_call 24; refine (codeOf_err A 2 (by omega) (by omega) _ (S.out.later (HB.out.alloc HB.out.size _))).mono ?_; rintro e W3 ⟨rfl, rfl⟩))
    go_ret2
    exact ⟨rfl, HB.out.alloc HB.out.size _⟩
  | true =>
    have HQ := Lib.hid hq
    have hl := Lib.hid (lackAt_yes hq)
    clear hq
    rw [hl.out]
    obtain ⟨o, ho⟩ : ∃ o, firstPos (missing g L h m) n = o := ⟨_, rfl⟩
    have HO := Lib.hid ho
    rw [ho]
    clear ho
    obtain ⟨le, hle⟩ : ∃ le, lackErr A o = le := ⟨_, rfl⟩
    have HLE := Lib.hid hle
    clear hle
    have he : le = .nilIface ∨ ∃ a, le = errVal a := by
      rw [← HLE.out]
      cases o with
      | some k => exact .inl rfl
      | none => exact .inr ⟨_, rfl⟩
    cases o with
    | some k =>
      obtain rfl : le = .nilIface := HLE.out.symm
      clear he
      go_enter Tryd.func14, Tryd.ntmps14
      go_wp2_with (first
        | (go_at_call 23; refine (shiftsFor_any n hn g hg L hL m hm h hh b c b2 c2 A _ I I2 S.out).mono ?_; rintro e w1 ⟨hO, hb⟩; rcases hO with ⟨_, v, rfl, ⟨q', c', rfl, hO2⟩⟩ | ⟨x, _⟩; case inr => exact absurd (x.symm.trans HQ.out) (by decide)
           have HB := Lib.hid (hb.alloc hb.size (.cells #[.slice q' n c', .int .i64 L] 43)); have hI : Hid (InO (w1.alloc (.cells #[.slice q' n c', .int .i64 L] 43)) q' n (missing g L h m)) := Lib.hid ((Own.inO ⟨q', c', rfl, hO2⟩).later ((Below.refl _ _).alloc (Nat.le_refl _) _)); clear hb hO2)
        | (go_at_call 25; refine (firstShort_any n hn _ q' c' A _ hI.out (S.out.later HB.out)).mono ?_; rintro e W3 ⟨rfl, hb⟩; rw [HO.out, HLE.out]; have HB3 := Lib.hid (HB.out.trans (hb.mono HB.out.size)); clear hb))
      go_ret2
      exact ⟨rfl, HB3.out⟩
    | none =>
      obtain ⟨a, rfl⟩ : ∃ a, le = errVal a := ⟨_, HLE.out.symm⟩
      clear he
      go_enter Tryd.func14, Tryd.ntmps14
      go_wp2_with (first
        | (go_at_call 23; refine (shiftsFor_any n hn g hg L hL m hm h hh b c b2 c2 A _ I I2 S.out).mono ?_; rintro e w1 ⟨hO, hb⟩; rcases hO with ⟨_, v, rfl, ⟨q', c', rfl, hO2⟩⟩ | ⟨x, _⟩; case inr => exact absurd (x.symm.trans HQ.out) (by decide)
           have HB := Lib.hid (hb.alloc hb.size (.cells #[.slice q' n c', .int .i64 L] 43)); have hI : Hid (InO (w1.alloc (.cells #[.slice q' n c', .int .i64 L] 43)) q' n (missing g L h m)) := Lib.hid ((Own.inO ⟨q', c', rfl, hO2⟩).later ((Below.refl _ _).alloc (Nat.le_refl _) _)); clear hb hO2)
        | (go_at_call 25; refine (firstShort_any n hn _ q' c' A _ hI.out (S.out.later HB.out)).mono ?_; rintro e W3 ⟨rfl, hb⟩; rw [HO.out, HLE.out]; have HB3 := Lib.hid (HB.out.trans (hb.mono HB.out.size)); clear hb))
      go_ret2
      exact ⟨rfl, HB3.out⟩
set_option maxRecDepth 100000 in
set_option maxHeartbeats 4000000 in
theorem implFirstShort (n : Nat) (hn : n ≤ 2 ^ 40) (g : Nat → Int) (hg : Wf64 n g) (L : Int) (hL : -9223372036854775808 ≤ L ∧ L ≤ 9223372036854775807) (m : Nat) (hm : m ≤ 2 ^ 40) (h : Nat → Int) (hh : Wf64 m h) (b c b2 c2 : Nat) (A : Nat → Addr) (w : World) (I : InI w b 0 n g) (I2 : InI w b2 0 m h) (S0 : Sents w A) :
    Calls Tryd.prog 16 #[.slice (some ⟨b, 0, none⟩) n c, .int .i64 L, .slice (some ⟨b2, 0, none⟩) m c2] w fun e w' => e = .returned (.tuple #[.int .i64 (hourOf (lackAt g n L h m)), .int .i64 (valOf (missing g L h m) (lackAt g n L h m)), .int .i64 (fsCode (shOk g n L h m) (lackAt g n L h m))]) ∧ Below w.heap.size w w' := by
  have S : Hid (Sents w A) := Lib.hid S0
  clear S0
  have hif := isIfaceErr
  cases hq : shOk g n L h m with
  | false =>
    have HQ := Lib.hid hq
    have hl := Lib.hid (lackAt_no hq)
    clear hq
    go_enter Tryd.func16, Tryd.ntmps16
    go_wp2_with (first
      | (go_at_call 23; refine (shiftsFor_any n hn g hg L hL m hm h hh b c b2 c2 A _ I I2 S.out).mono ?_; rintro e w1 ⟨hO, hb⟩; rcases hO with ⟨x, _⟩ | ⟨_, rfl⟩; exact absurd (x.symm.trans HQ.out) (by decide); have HB := Lib.hid hb; clear hb)
      | (go_at_call 24; refine (codeOf_err A 2 (by omega) (by omega) _ (S.out.later (HB.out.alloc HB.out.size _))).mono ?_; rintro e W3 ⟨rfl, rfl⟩))
    go_ret3
    exact ⟨by rw [hl.out]; rfl, HB.out.alloc HB.out.size _⟩
  | true =>
    have HQ := Lib.hid hq
    have hl := Lib.hid (lackAt_yes hq)
    clear hq
    rw [hl.out]
    obtain ⟨o, ho⟩ : ∃ o, firstPos (missing g L h m) n = o := ⟨_, rfl⟩
    have HO := Lib.hid ho
    rw [ho]
    clear ho
    cases o with
    | some k =>
      have hk := (firstPos_spec HO.out).1
      obtain ⟨y, hy⟩ : ∃ y, missing g L h m k = y := ⟨_, rfl⟩
      have HY := Lib.hid hy
      clear hy
      go_enter Tryd.func16, Tryd.ntmps16
      go_wp2_with (first
        | (go_at_call 23; refine (shiftsFor_any n hn g hg L hL m hm h hh b c b2 c2 A _ I I2 S.out).mono ?_; rintro e w1 ⟨hO, hb⟩; rcases hO with ⟨_, v, rfl, ⟨q', c', rfl, hO2⟩⟩ | ⟨x, _⟩; case inr => exact absurd (x.symm.trans HQ.out) (by decide)
           have HB := Lib.hid (hb.alloc hb.size (.cells #[.slice q' n c', .int .i64 L] 43)); have hI : Hid (InO (w1.alloc (.cells #[.slice q' n c', .int .i64 L] 43)) q' n (missing g L h m)) := Lib.hid ((Own.inO ⟨q', c', rfl, hO2⟩).later ((Below.refl _ _).alloc (Nat.le_refl _) _)); have hX : Hid (Blk (w1.alloc (.cells #[.slice q' n c', .int .i64 L] 43)) w1.heap.size #[.slice q' n c', .int .i64 L] 43) := Lib.hid (Blk.new _ _ _); clear hb hO2)
        | (go_at_call 25; refine (firstShort_any n hn _ q' c' A _ hI.out (S.out.later HB.out)).mono ?_; rintro e W3 ⟨rfl, hb⟩; rw [HO.out, show hourOf (some k) = (k : Int) from rfl, show lackErr A (some k) = .nilIface from rfl]; have HB3 := Lib.hid (HB.out.trans (hb.mono HB.out.size)); have hI3 := Lib.hid (hI.out.later hb); have hX3 := Lib.hid (hX.out.later hb); clear hb))
      have x0 := hX3.out.cell (i := 0) rfl
      obtain ⟨b', rfl, hI4⟩ : ∃ b', q' = some ⟨b', 0, none⟩ ∧ InI W3 b' 0 n (missing g L h m) := by
        rcases hI3.out with h0 | h0
        · omega
        · exact h0
      have d0 := hI4 k hk
      rw [Nat.zero_add, HY.out] at d0
      go_quiet (fail)
      go_wp2_with fail
      go_ret3
      exact ⟨by rw [show valOf (missing g L h m) (some k) = missing g L h m k from rfl, HY.out]; rfl, below_drewN _ HB3.out⟩
    | none =>
      go_enter Tryd.func16, Tryd.ntmps16
      go_wp2_with (first
        | (go_at_call 23; refine (shiftsFor_any n hn g hg L hL m hm h hh b c b2 c2 A _ I I2 S.out).mono ?_; rintro e w1 ⟨hO, hb⟩; rcases hO with ⟨_, v, rfl, ⟨q', c', rfl, hO2⟩⟩ | ⟨x, _⟩; case inr => exact absurd (x.symm.trans HQ.out) (by decide)
           have HB := Lib.hid (hb.alloc hb.size (.cells #[.slice q' n c', .int .i64 L] 43)); have hI : Hid (InO (w1.alloc (.cells #[.slice q' n c', .int .i64 L] 43)) q' n (missing g L h m)) := Lib.hid ((Own.inO ⟨q', c', rfl, hO2⟩).later ((Below.refl _ _).alloc (Nat.le_refl _) _)); clear hb hO2)
        | (go_at_call 25; refine (firstShort_any n hn _ q' c' A _ hI.out (S.out.later HB.out)).mono ?_; rintro e W3 ⟨rfl, hb⟩; rw [HO.out, show hourOf none = (0 : Int) from rfl, show lackErr A none = errVal (A 6) from rfl]; have HB3 := Lib.hid (HB.out.trans (hb.mono HB.out.size)); clear hb)
        | (go_at_call 24; refine (codeOf_err A 6 (by omega) (by omega) _ (S.out.later HB3.out)).mono ?_; rintro e W4 ⟨rfl, rfl⟩))
      go_ret3
      exact ⟨rfl, HB3.out⟩
end Go.Proofs.YtieeanpkkpgnfaaDoor
