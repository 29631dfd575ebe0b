/-
  Shifts: whether they are enough, and where they are not: the model's, the program's.
-/
import Derived.Test.YtieeanpkkpgnfaaDoorShfS
import Derived.Test.YtieeanpkkpgnfaaDoorShfF
namespace Go.Proofs.YtieeanpkkpgnfaaDoor
open Go Go.RowKit

/-- Where watchers are missing. -/
def lackAt (g : Nat → Int) (n : Nat) (L : Int) (h : Nat → Int) (m : Nat) : Option Nat := if shOk g n L h m then firstPos (missing g L h m) n else none
def fsCode (ok : Bool) (o : Option Nat) : Int := if ok then (match o with | some _ => 0 | none => 6) else 2
theorem lackAt_no {g : Nat → Int} {n : Nat} {L : Int} {h : Nat → Int} {m : Nat} (q : shOk g n L h m = false) : lackAt g n L h m = none := by unfold lackAt; rw [q]; rfl
theorem lackAt_yes {g : Nat → Int} {n : Nat} {L : Int} {h : Nat → Int} {m : Nat} (q : shOk g n L h m = true) : lackAt g n L h m = firstPos (missing g L h m) n := by unfold lackAt; rw [q]; rfl
theorem miss_in {g : Nat → Int} {n : Nat} {L : Int} {h : Nat → Int} {m : Nat} (q : shOk g n L h m = true) (hm : m ≤ 2 ^ 40) : ∀ i, i < n → -2 ^ 40 ≤ missing g L h m i ∧ missing g L h m i ≤ 20 := fun i hi => by
  have h1 := there_in L h i m
  have h2 := (shOk_iff.1 q).2.1 i hi
  unfold missing; omega
set_option maxRecDepth 100000 in
set_option maxHeartbeats 2000000 in
theorem specCheckShifts (n : Nat) (hn : n ≤ 2 ^ 40) (g : Nat → Int) (L : Int) (m : Nat) (hm : m ≤ 2 ^ 40) (h : Nat → Int) (b c b2 c2 : Nat) (w : World) (I : InI w b 0 n g) (I2 : InI w b2 0 m h) :
    Calls Tryd.prog 13 #[.slice (some ⟨b, 0, none⟩) n c, .int .i64 L, .slice (some ⟨b2, 0, none⟩) m c2] w fun e w' => e = .returned (.tuple #[.bool (shOk g n L h m && (lackAt g n L h m).isNone), .int .i64 (shCode (shOk g n L h m))]) ∧ Below w.heap.size w w' := by
  cases hq : shOk g n L h m with
  | false =>
    have HQ := Lib.hid hq
    clear hq
    go_enter Tryd.func13, Tryd.ntmps13
    go_wp2_with (go_at_call 21; refine (l05Needs_any n hn g L m hm h b 0 c b2 0 c2 _ I I2).mono ?_; rintro e w' ⟨rfl, rfl⟩; rw [HQ.out, show shCode false = (2 : Int) from rfl])
    go_ret2
    exact ⟨rfl, Below.refl _ _⟩
  | true =>
    have HQ := Lib.hid hq
    have hs := Lib.hid (shOk_iff.1 hq)
    have hl := Lib.hid (lackAt_yes hq)
    clear hq
    obtain ⟨o, ho⟩ : ∃ o, firstPos (missing g L h m) n = o := ⟨_, rfl⟩
    have HO := Lib.hid ho
    clear ho
    cases o with
    | none =>
      go_enter Tryd.func13, Tryd.ntmps13
      go_wp2_with (first
        | (go_at_call 21; refine (l05Needs_any n hn g L m hm h b 0 c b2 0 c2 _ I I2).mono ?_; rintro e w' ⟨rfl, rfl⟩; rw [HQ.out, show shCode true = (0 : Int) from rfl])
        | (go_at_call 28; refine (l05Short_any L hs.out.1.2 n hs.out.1.1 g hs.out.2.1 m hm h (fun i hi => by have := hs.out.2.2 i hi; have := hs.out.1.1; omega) b 0 c b2 0 c2 _ I I2).mono ?_; rintro e w1 ⟨rfl, hb⟩; rw [HO.out, show posOf none = (-1 : Int) from rfl]))
      go_ret2
      exact ⟨by rw [hl.out, HO.out]; rfl, hb⟩
    | some k =>
      have hk := (firstPos_spec HO.out).1
      go_enter Tryd.func13, Tryd.ntmps13
      go_wp2_with (first
        | (go_at_call 21; refine (l05Needs_any n hn g L m hm h b 0 c b2 0 c2 _ I I2).mono ?_; rintro e w' ⟨rfl, rfl⟩; rw [HQ.out, show shCode true = (0 : Int) from rfl])
        | (go_at_call 28; refine (l05Short_any L hs.out.1.2 n hs.out.1.1 g hs.out.2.1 m hm h (fun i hi => by have := hs.out.2.2 i hi; have := hs.out.1.1; omega) b 0 c b2 0 c2 _ I I2).mono ?_; rintro e w1 ⟨rfl, hb⟩; rw [HO.out, show posOf (some k) = (k : Int) from rfl]))
      go_ret2
      exact ⟨by rw [hl.out, HO.out]; rfl, hb⟩
set_option maxRecDepth 100000 in
set_option maxHeartbeats 2000000 in
theorem specFirstShort (n : Nat) (hn : n ≤ 2 ^ 40) (g : Nat → Int) (L : Int) (m : Nat) (hm : m ≤ 2 ^ 40) (h : Nat → Int) (b c b2 c2 : Nat) (w : World) (I : InI w b 0 n g) (I2 : InI w b2 0 m h) :
    Calls Tryd.prog 15 #[.slice (some ⟨b, 0, none⟩) n c, .int .i64 L, .slice (some ⟨b2, 0, none⟩) m c2] w fun e w' => e = .returned (.tuple #[.int .i64 (hourOf (lackAt g n L h m)), .int .i64 (valOf (missing g L h m) (lackAt g n L h m)), .int .i64 (fsCode (shOk g n L h m) (lackAt g n L h m))]) ∧ Below w.heap.size w w' := by
  cases hq : shOk g n L h m with
  | false =>
    have HQ := Lib.hid hq
    have hl := Lib.hid (lackAt_no hq)
    clear hq
    go_enter Tryd.func15, Tryd.ntmps15
    go_wp2_with (go_at_call 21; refine (l05Needs_any n hn g L m hm h b 0 c b2 0 c2 _ I I2).mono ?_; rintro e w' ⟨rfl, rfl⟩; rw [HQ.out, show shCode false = (2 : Int) from rfl])
    go_ret3
    exact ⟨by rw [hl.out]; rfl, Below.refl _ _⟩
  | true =>
    have HQ := Lib.hid hq
    have hs := Lib.hid (shOk_iff.1 hq)
    have hl := Lib.hid (lackAt_yes hq)
    clear hq
    obtain ⟨o, ho⟩ : ∃ o, firstPos (missing g L h m) n = o := ⟨_, rfl⟩
    have HO := Lib.hid ho
    clear ho
    cases o with
    | none =>
      go_enter Tryd.func15, Tryd.ntmps15
      go_wp2_with (first
        | (go_at_call 21; refine (l05Needs_any n hn g L m hm h b 0 c b2 0 c2 _ I I2).mono ?_; rintro e w' ⟨rfl, rfl⟩; rw [HQ.out, show shCode true = (0 : Int) from rfl])
        | (go_at_call 28; refine (l05Short_any L hs.out.1.2 n hs.out.1.1 g hs.out.2.1 m hm h (fun i hi => by have := hs.out.2.2 i hi; have := hs.out.1.1; omega) b 0 c b2 0 c2 _ I I2).mono ?_; rintro e w1 ⟨rfl, hb⟩; rw [HO.out, show posOf none = (-1 : Int) from rfl]))
      go_ret3
      exact ⟨by rw [hl.out, HO.out]; rfl, hb⟩
    | some k =>
      have hk := (firstPos_spec HO.out).1
      obtain ⟨y, hy⟩ : ∃ y, valOf (missing g L h m) (some k) = y := ⟨_, rfl⟩
      have HY := Lib.hid hy
      clear hy
      go_enter Tryd.func15, Tryd.ntmps15
      go_wp2_with (first
        | (go_at_call 21; refine (l05Needs_any n hn g L m hm h b 0 c b2 0 c2 _ I I2).mono ?_; rintro e w' ⟨rfl, rfl⟩; rw [HQ.out, show shCode true = (0 : Int) from rfl])
        | (go_at_call 28; refine (l05Short_any L hs.out.1.2 n hs.out.1.1 g hs.out.2.1 m hm h (fun i hi => by have := hs.out.2.2 i hi; have := hs.out.1.1; omega) b 0 c b2 0 c2 _ I I2).mono ?_; rintro e w1 ⟨rfl, hb⟩; rw [HO.out, HY.out, show posOf (some k) = (k : Int) from rfl]))
      go_ret3
      exact ⟨by rw [hl.out, HO.out, HY.out]; rfl, hb⟩
end Go.Proofs.YtieeanpkkpgnfaaDoor
