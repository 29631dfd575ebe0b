/-
  Watching: checkWatching; the model's l05Asked.
-/
import Derived.Test.YtfchbdbfokpcdaaDoorBtC
import Derived.Test.YtfchbdbfokpcdaaDoorChkN
namespace Go.Proofs.YtfchbdbfokpcdaaDoor
open Go Go.RowKit

def okB (f : Fd) (n : Nat) (g : Nat → Int) : Bool := okF f && beatOk f n g
/-- The code of a beat, a sight and whether numbers are as told. -/
def beatAsk (f : Fd) (n : Nat) (g : Nat → Int) (sight : Int) (fine : Bool) : Int := if okB f n g then (if inB sight 0 50 && fine then 0 else 2) else 1
theorem beatAsk_no {f : Fd} {n : Nat} {g : Nat → Int} {s : Int} {fine : Bool} (h : okB f n g = false) : beatAsk f n g s fine = 1 := by unfold beatAsk; rw [h]; rfl
theorem beatAsk_bad {f : Fd} {n : Nat} {g : Nat → Int} {s : Int} {fine : Bool} (h : okB f n g = true) (h2 : (inB s 0 50 && fine) = false) : beatAsk f n g s fine = 2 := by unfold beatAsk; rw [h, h2]; rfl
theorem beatAsk_ok {f : Fd} {n : Nat} {g : Nat → Int} {s : Int} {fine : Bool} (h : okB f n g = true) (h2 : (inB s 0 50 && fine) = true) : beatAsk f n g s fine = 0 := by unfold beatAsk; rw [h, h2]; rfl
theorem beatAsk_0 {f : Fd} {n : Nat} {g : Nat → Int} {s : Int} {fine : Bool} (h : beatAsk f n g s fine = 0) : okB f n g = true ∧ (0 ≤ s ∧ s ≤ 50) ∧ fine = true := by
  cases q : okB f n g with
  | false => rw [beatAsk_no q] at h; exact absurd h (by decide)
  | true =>
    cases q2 : (inB s 0 50 && fine) with
    | false => rw [beatAsk_bad q q2] at h; exact absurd h (by decide)
    | true => rw [Bool.and_eq_true] at q2; exact ⟨rfl, inB_iff.1 q2.1, q2.2⟩
theorem beatAsk_cases (f : Fd) (n : Nat) (g : Nat → Int) (s : Int) (fine : Bool) : beatAsk f n g s fine = 0 ∨ beatAsk f n g s fine = 1 ∨ beatAsk f n g s fine = 2 := by
  cases q : okB f n g with
  | false => exact .inr (.inl (beatAsk_no q))
  | true =>
    cases q2 : (inB s 0 50 && fine) with
    | false => exact .inr (.inr (beatAsk_bad q q2))
    | true => exact .inl (beatAsk_ok q q2)
theorem okB_iff {f : Fd} {n : Nat} {g : Nat → Int} (h : okB f n g = true) : okF f = true ∧ 1 ≤ n ∧ n ≤ 40 := by
  unfold okB at h
  rw [Bool.and_eq_true] at h
  have := beatOk_iff h.2
  exact ⟨h.1, this.1, this.2.1⟩
theorem okB_ok {f : Fd} {n : Nat} {g : Nat → Int} (h : okB f n g = true) : beatOk f n g = true := by unfold okB at h; rw [Bool.and_eq_true] at h; exact h.2
set_option maxRecDepth 100000 in
theorem l05Asked_any (f : Fd) (hf : f.Wf) (n : Nat) (hn : n ≤ 2 ^ 40) (g : Nat → Int) (hg : WfH n g) (s : Int) (fine : Bool) (b0 b c : Nat) (w : World) (B : Blk w b0 (fcells f) 31) (I : InH w b 0 n g) :
    Calls Tryd.prog 20 #[.pointer (some ⟨b0, 0, none⟩), .slice (some ⟨b, 0, none⟩) n c, .int .i64 s, .bool fine] w fun e w' => e = .returned (.int .i64 (beatAsk f n g s fine)) ∧ w = w' := by
  have HB := Lib.hid B
  have HI := Lib.hid I
  clear B I
  cases hq : okB f n g with
  | false =>
    rw [beatAsk_no hq]
    have HQ : Hid ((okF f && beatOk f n g) = false) := Lib.hid hq
    clear hq
    go_enter Tryd.func20, Tryd.ntmps20
    go_wp2_with (go_at_call 28; refine (l05Ok_any f hf n hn g hg b0 b c _ HB.out HI.out).mono ?_; rintro e w' ⟨rfl, rfl⟩; rw [HQ.out])
    go_ret
    exact ⟨rfl, rfl⟩
  | true =>
    have HQ : Hid ((okF f && beatOk f n g) = true) := Lib.hid hq
    obtain ⟨v, hv⟩ : ∃ v, inB s 0 50 = v := ⟨_, rfl⟩
    have HV := Lib.hid hv
    cases v with
    | false =>
      rw [beatAsk_bad hq (by rw [hv]; rfl)]
      clear hq hv
      go_enter Tryd.func20, Tryd.ntmps20
      go_wp2_with (first
        | (go_at_call 28; refine (l05Ok_any f hf n hn g hg b0 b c _ HB.out HI.out).mono ?_; rintro e w' ⟨rfl, rfl⟩; rw [HQ.out])
        | (go_at_call 19; refine (l00In_any _ _ _ _).mono ?_; rintro e w' ⟨rfl, rfl⟩; rw [HV.out]))
      go_ret
      exact ⟨rfl, rfl⟩
    | true =>
      have hw : beatAsk f n g s fine = if fine then 0 else 2 := by
        cases fine with
        | false => rw [beatAsk_bad hq (by rw [hv]; rfl)]; rfl
        | true => rw [beatAsk_ok hq (by rw [hv]; rfl)]; rfl
      rw [hw]
      clear hq hv hw
      cases fine with
      | false =>
        go_enter Tryd.func20, Tryd.ntmps20
        go_wp2_with (first
          | (go_at_call 28; refine (l05Ok_any f hf n hn g hg b0 b c _ HB.out HI.out).mono ?_; rintro e w' ⟨rfl, rfl⟩; rw [HQ.out])
          | (go_at_call 19; refine (l00In_any _ _ _ _).mono ?_; rintro e w' ⟨rfl, rfl⟩; rw [HV.out]))
        go_ret
        exact ⟨rfl, rfl⟩
      | true =>
        go_enter Tryd.func20, Tryd.ntmps20
        go_wp2_with (first
          | (go_at_call 28; refine (l05Ok_any f hf n hn g hg b0 b c _ HB.out HI.out).mono ?_; rintro e w' ⟨rfl, rfl⟩; rw [HQ.out])
          | (go_at_call 19; refine (l00In_any _ _ _ _).mono ?_; rintro e w' ⟨rfl, rfl⟩; rw [HV.out]))
        go_ret
        exact ⟨rfl, rfl⟩
theorem isSight_any (n : Int) (w : World) : Calls Tryd.prog 32 #[.int .i64 n] w fun e w' => e = .returned (.bool (inB n 0 50)) ∧ w = w' := by
  by_cases h1 : 0 ≤ n
  · by_cases h2 : n ≤ 50
    · rw [inB_iff.2 ⟨h1, h2⟩]
      go_enter Tryd.func32, Tryd.ntmps32
      go_wp2_with fail
      go_ret
      exact ⟨rfl, rfl⟩
    · rw [inB_false (.inr (by omega))]
      go_enter Tryd.func32, Tryd.ntmps32
      go_wp2_with fail
      go_ret
      exact ⟨rfl, rfl⟩
  · rw [inB_false (.inl (by omega))]
    go_enter Tryd.func32, Tryd.ntmps32
    go_wp2_with fail
    go_ret
    exact ⟨rfl, rfl⟩
theorem isWatchers_any (n : Int) (w : World) : Calls Tryd.prog 24 #[.int .i64 n] w fun e w' => e = .returned (.bool (inB n 1 8)) ∧ w = w' := by
  by_cases h1 : 1 ≤ n
  · by_cases h2 : n ≤ 8
    · rw [inB_iff.2 ⟨h1, h2⟩]
      go_enter Tryd.func24, Tryd.ntmps24
      go_wp2_with fail
      go_ret
      exact ⟨rfl, rfl⟩
    · rw [inB_false (.inr (by omega))]
      go_enter Tryd.func24, Tryd.ntmps24
      go_wp2_with fail
      go_ret
      exact ⟨rfl, rfl⟩
  · rw [inB_false (.inl (by omega))]
    go_enter Tryd.func24, Tryd.ntmps24
    go_wp2_with fail
    go_ret
    exact ⟨rfl, rfl⟩
def codeErr (A : Nat → Addr) (c : Int) : Value := if c = 0 then .nilIface else errVal (A c.toNat)
set_option maxRecDepth 100000 in
set_option maxHeartbeats 4000000 in
theorem checkWatching_any (f : Fd) (hf : f.Wf) (n : Nat) (hn : n ≤ 2 ^ 40) (g : Nat → Int) (hg : WfH n g) (s : Int) (m : Nat) (hm : m ≤ 2 ^ 40) (h : Nat → Int) (hh : Wf64 m h) (b cb : Nat) (p : Option Addr) (c : Nat) (A : Nat → Addr) (w : World) (I : InH w b 0 n g) (I2 : InO w p m h) (S0 : Sents w A) :
    Calls Tryd.prog 22 #[.agg (fcells f), .slice (some ⟨b, 0, none⟩) n cb, .int .i64 s, .slice p m c] w fun e w' => e = .returned (codeErr A (beatAsk f n g s (allTo m (fun i => isCell f (h i))))) ∧ Below w.heap.size w w' := by
  have S : Hid (Sents w A) := Lib.hid S0
  have HI := Lib.hid I
  have HI2 := Lib.hid I2
  have HH := Lib.hid hh
  clear S0 I I2 hh
  have hif := isIfaceErr
  cases hq : okB f n g with
  | false =>
    have hc : Hid (beatsOk f 1 (fun _ => n) (fun _ => g) = false) := Lib.hid (by rw [beatsOk_one]; exact hq)
    rw [beatAsk_no hq]
    clear hq
    go_enter Tryd.func22, Tryd.ntmps22
    go_upto_region 1 with (fail)
    obtain ⟨W, hW, M⟩ := open1 w (fcells f) 31
    rw [hW]; clear hW
    go_wp2_with (first
      | (refine wpList_load_part rfl 31 _ rfl w.heap.size 0 rfl (fcells f) _ (M.at 0 rfl).whole Tryd.underlying31 rfl (by rw [fcells_size]; exact sizeFd) ?_)
      | (go_at_call 31; refine (checkBeats_any f hf _ 1 _ (by omega) (fun _ => b) (fun _ => n) (fun _ => cb) (fun _ => g) A _ (btsAt_one (Blk.new _ _ _) (HI.out.later (M.alloc _ _).below) hn hg) (S.out.later (M.alloc _ _).below).one).mono ?_; rintro e W2 ⟨rfl, hb⟩; rw [hc.out, errIf_false]; have M2 := (M.alloc _ _).call hb; clear hb))
    go_ret
    exact ⟨rfl, M2.below⟩
  | true =>
    have hc : Hid (beatsOk f 1 (fun _ => n) (fun _ => g) = true) := Lib.hid (by rw [beatsOk_one]; exact hq)
    have hok := (okB_iff hq).1
    obtain ⟨v, hv⟩ : ∃ v, inB s 0 50 = v := ⟨_, rfl⟩
    have HV := Lib.hid hv
    cases v with
    | false =>
      rw [beatAsk_bad hq (by rw [hv]; rfl)]
      clear hq hv
      go_enter Tryd.func22, Tryd.ntmps22
      go_upto_region 1 with (fail)
      obtain ⟨W, hW, M⟩ := open1 w (fcells f) 31
      rw [hW]; clear hW
      go_wp2_with (first
        | (refine wpList_load_part rfl 31 _ rfl w.heap.size 0 rfl (fcells f) _ (M.at 0 rfl).whole Tryd.underlying31 rfl (by rw [fcells_size]; exact sizeFd) ?_)
        | (go_at_call 31; refine (checkBeats_any f hf _ 1 _ (by omega) (fun _ => b) (fun _ => n) (fun _ => cb) (fun _ => g) A _ (btsAt_one (Blk.new _ _ _) (HI.out.later (M.alloc _ _).below) hn hg) (S.out.later (M.alloc _ _).below).one).mono ?_; rintro e W2 ⟨rfl, hb⟩; rw [hc.out, errIf_true]; have M2 := (M.alloc _ _).call hb; have v2 := (S.out.later M2.below).v2; clear hb)
        | (go_at_call 32; refine (isSight_any _ _).mono ?_; rintro e w' ⟨rfl, rfl⟩; rw [HV.out]))
      go_ret
      exact ⟨rfl, M2.below⟩
    | true =>
      obtain ⟨fine, hfine⟩ : ∃ fine, allTo m (fun i => isCell f (h i)) = fine := ⟨_, rfl⟩
      have HFN := Lib.hid hfine
      rw [hfine]
      have hw : codeErr A (beatAsk f n g s fine) = errIf A 2 fine := by
        cases fine with
        | false => rw [beatAsk_bad hq (by rw [hv]; rfl)]; rfl
        | true => rw [beatAsk_ok hq (by rw [hv]; rfl)]; rfl
      rw [hw]
      clear hq hv hw hfine
      have ok1 : True := trivial
      have ok2 : True := trivial
      go_enter Tryd.func22, Tryd.ntmps22
      go_upto_region 1 with (fail)
      obtain ⟨W, hW, M⟩ := open1 w (fcells f) 31
      rw [hW]; clear hW
      go_wp2_with (first
        | (clear ok1; refine wpList_load_part rfl 31 _ rfl w.heap.size 0 rfl (fcells f) _ (M.at 0 rfl).whole Tryd.underlying31 rfl (by rw [fcells_size]; exact sizeFd) ?_)
        | (go_at_call 31; refine (checkBeats_any f hf _ 1 _ (by omega) (fun _ => b) (fun _ => n) (fun _ => cb) (fun _ => g) A _ (btsAt_one (Blk.new _ _ _) (HI.out.later (M.alloc _ _).below) hn hg) (S.out.later (M.alloc _ _).below).one).mono ?_; rintro e W2 ⟨rfl, hb⟩; rw [hc.out, errIf_true]; have M2 := (M.alloc _ _).call hb; clear hb)
        | (go_at_call 32; refine (isSight_any _ _).mono ?_; rintro e w' ⟨rfl, rfl⟩; rw [HV.out])
        | (clear ok2; refine wpList_load_part rfl 31 _ rfl w.heap.size 0 rfl (fcells f) _ (M2.at 0 rfl).whole Tryd.underlying31 rfl (by rw [fcells_size]; exact sizeFd) ?_)
        | (go_at_call 33; refine (checkCells_O f hf hok m hm h HH.out A p c _ (HI2.out.later M2.below) (S.out.later M2.below)).mono ?_; rintro e W3 ⟨rfl, hb⟩; rw [HFN.out]; have M3 := M2.call hb; clear hb))
      go_ret
      exact ⟨rfl, M3.below⟩
end Go.Proofs.YtfchbdbfokpcdaaDoor
