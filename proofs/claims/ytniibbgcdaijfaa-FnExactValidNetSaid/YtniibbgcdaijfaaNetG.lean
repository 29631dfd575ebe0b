/-
  The model of nets: what is in a net, which nets are valid, the set of a net's cells.
  The model of several nets: their check, what they cover, what two of them cover.
-/
import Derived.Test.YtniibbgcdaijfaaNetB
import Derived.Test.YtniibbgcdaijfaaNetD
import Derived.Test.YtniibbgcdaijfaaStrEq
namespace Go.Proofs.Ytniibbgcdaijfaa
section
open Go Go.RowKit

theorem insA_in {a : Nat → Int} (h : NetFits a) {c : Nat} : (inB ((c : Int) % 10) (a 0) (a 0 + a 2 - 1) && inB ((c : Int) / 10) (a 1) (a 1 + a 3 - 1)) = insA a c := by
  obtain ⟨x0, y0, w1, h1, x2, y2⟩ := h
  rw [Bool.eq_iff_iff]
  simp only [insA, ins, inB, Bool.and_eq_true, decide_eq_true_eq]
  omega
theorem fits_wf {a : Nat → Int} (h : NetFits a) : WfN a := by
  obtain ⟨x0, y0, w1, h1, x2, y2⟩ := h
  constructor <;> omega
set_option maxRecDepth 100000 in
set_option maxHeartbeats 2000000 in
theorem inside_any (a : Nat → Int) (h : NetFits a) (c : Nat) (hc : c < 100) (w : World) : Calls Try.prog 28 #[vNet a, .int .i64 c] w fun e w' => e = .returned (.bool (insA a c)) ∧ Below w.heap.size w w' := by
  have hres := Lib.hid (insA_in h (c := c))
  obtain ⟨x0, y0, w1, h1, x2, y2⟩ := h
  have hw1 : Hid (wrap64 ((c : Int) / 10) = (c : Int) / 10) := Lib.hid (by unfold wrap64; omega)
  have hq : ((c : Int).tdiv 10) = (c : Int) / 10 := Int.tdiv_eq_ediv_of_nonneg (by omega)
  have hr : ((c : Int).tmod 10) = (c : Int) % 10 := Int.tmod_eq_emod_of_nonneg (by omega)
  go_enter Try.func28, Try.ntmps28
  go_upto_region 1 with (fail)
  obtain ⟨W, hW, M⟩ := open1 w #[.int .i8 (a 0), .int .i8 (a 1), .int .i8 (a 2), .int .i8 (a 3)] 33
  rw [hW]; clear hW
  have c0 := (M.at 0 rfl).cell (i := 0) rfl
  have c1 := (M.at 0 rfl).cell (i := 1) rfl
  have c2 := (M.at 0 rfl).cell (i := 2) rfl
  have c3 := (M.at 0 rfl).cell (i := 3) rfl
  go_upto_region 3 with (fail)
  have ok1 : True := trivial
  cases hA : inB ((c : Int) % 10) (a 0) (a 0 + a 2 - 1) with
  | false =>
    rw [hA] at hres
    go_wp2_with (go_at_call 24; refine (l00In_any _ _ _ _).mono ?_; rintro e w' ⟨rfl, rfl⟩; rw [hA])
    go_ret
    exact ⟨by rw [← hres.out]; rfl, M.below⟩
  | true =>
    rw [hA] at hres
    go_wp2_with (first
      | (clear ok1; go_at_call 24; refine (l00In_any _ _ _ _).mono ?_; rintro e w' ⟨rfl, rfl⟩; rw [hA])
      | (go_at_call 24; refine (l00In_any _ _ _ _).mono ?_; rintro e w' ⟨rfl, rfl⟩))
    go_ret
    exact ⟨by rw [← hres.out]; rfl, M.below⟩
/-- Where the checks of a net's place fall. -/
theorem netIn_of {f : Fd} {a : Nat → Int} : netIn f a = (inB (a 0) 0 (f.W - 1) && inB (a 1) 0 (f.H - 1) && inB (a 2) 1 (f.W - a 0) && inB (a 3) 1 (f.H - a 1)) := by
  rw [Bool.eq_iff_iff]
  simp only [netIn, placeIn, inB, Bool.and_eq_true, decide_eq_true_eq]
  omega
set_option maxRecDepth 100000 in
set_option maxHeartbeats 4000000 in
theorem l04Net_any (f : Fd) (hf : f.Wf) (hok : okF f = true) (a : Nat → Int) (ha : WfN a) (b : Nat) (w : World) (B : Blk w b (fcells f) 31) :
    Calls Try.prog 15 #[.pointer (some ⟨b, 0, none⟩), vNet a] w fun e w' => e = .returned (.bool (netOk f a)) ∧ Below w.heap.size w w' := by
  obtain ⟨hW1, hW2, hH1, hH2⟩ := okF_size hok
  have HFT : Hid (netIn f a = true → NetFits a) := Lib.hid (netIn_fits hW2 hH2)
  have hin := Lib.hid (netIn_of (f := f) (a := a))
  obtain ⟨⟨x1, x2⟩, ⟨y1, y2⟩, ⟨u1, u2⟩, ⟨v1, v2⟩⟩ := ha
  go_enter Try.func15, Try.ntmps15
  go_upto_region 1 with (fail)
  obtain ⟨W, hW, M⟩ := open1 w #[.int .i8 (a 0), .int .i8 (a 1), .int .i8 (a 2), .int .i8 (a 3)] 33
  have B1 : Hid (Blk W b (fcells f) 31) := Lib.hid (by rw [← hW]; exact B.alloc _)
  rw [hW]; clear hW B
  have c0 := (M.at 0 rfl).cell (i := 0) rfl
  have c1 := (M.at 0 rfl).cell (i := 1) rfl
  have c2 := (M.at 0 rfl).cell (i := 2) rfl
  have c3 := (M.at 0 rfl).cell (i := 3) rfl
  have d0 := B1.out.cell (fcells_0 f)
  have d1 := B1.out.cell (fcells_1 f)
  go_upto_region 3 with (fail)
  have ok1 : True := trivial
  cases hA : inB (a 0) 0 (f.W - 1) with
  | false =>
    have hx : Hid (netOk f a = false) := Lib.hid (by unfold netOk; rw [hin.out, hA]; rfl)
    go_quiet (first | (go_at_call 24; exact Calls.quiet_of_same ((l00In_any _ _ _ _).mono (fun e w9 h => ⟨h.1.trans (by rw [hA]), h.2.symm⟩))))
    go_wp2_with fail
    go_ret
    exact ⟨by rw [hx.out]; rfl, (M.drewN _).below⟩
  | true =>
    cases hB : inB (a 1) 0 (f.H - 1) with
    | false =>
      have hx : Hid (netOk f a = false) := Lib.hid (by unfold netOk; rw [hin.out, hA, hB]; rfl)
      go_quiet (first | (go_at_call 24; exact Calls.quiet_of_same ((l00In_any _ _ _ _).mono (fun e w9 h => ⟨h.1.trans (by rw [hA]), h.2.symm⟩))) | (go_at_call 24; exact Calls.quiet_of_same ((l00In_any _ _ _ _).mono (fun e w9 h => ⟨h.1.trans (by rw [hB]), h.2.symm⟩))))
      go_wp2_with fail
      go_ret
      exact ⟨by rw [hx.out]; rfl, (M.drewN _).below⟩
    | true =>
      cases hC : inB (a 2) 1 (f.W - a 0) with
      | false =>
        have hx : Hid (netOk f a = false) := Lib.hid (by unfold netOk; rw [hin.out, hA, hB, hC]; rfl)
        go_quiet (first | (go_at_call 24; exact Calls.quiet_of_same ((l00In_any _ _ _ _).mono (fun e w9 h => ⟨h.1.trans (by rw [hA]), h.2.symm⟩))) | (go_at_call 24; exact Calls.quiet_of_same ((l00In_any _ _ _ _).mono (fun e w9 h => ⟨h.1.trans (by rw [hB]), h.2.symm⟩))) | (go_at_call 24; exact Calls.quiet_of_same ((l00In_any _ _ _ _).mono (fun e w9 h => ⟨h.1.trans (by rw [hC]), h.2.symm⟩))))
        go_wp2_with fail
        go_ret
        exact ⟨by rw [hx.out]; rfl, (M.drewN _).below⟩
      | true =>
        cases hD : inB (a 3) 1 (f.H - a 1) with
        | false =>
          have hx : Hid (netOk f a = false) := Lib.hid (by unfold netOk; rw [hin.out, hA, hB, hC, hD]; rfl)
          go_quiet (first | (go_at_call 24; exact Calls.quiet_of_same ((l00In_any _ _ _ _).mono (fun e w9 h => ⟨h.1.trans (by rw [hA]), h.2.symm⟩))) | (go_at_call 24; exact Calls.quiet_of_same ((l00In_any _ _ _ _).mono (fun e w9 h => ⟨h.1.trans (by rw [hB]), h.2.symm⟩))) | (go_at_call 24; exact Calls.quiet_of_same ((l00In_any _ _ _ _).mono (fun e w9 h => ⟨h.1.trans (by rw [hC]), h.2.symm⟩))) | (go_at_call 24; exact Calls.quiet_of_same ((l00In_any _ _ _ _).mono (fun e w9 h => ⟨h.1.trans (by rw [hD]), h.2.symm⟩))))
          go_wp2_with fail
          go_ret
          exact ⟨by rw [hx.out]; rfl, (M.drewN _).below⟩
        | true =>
          have hx : netIn f a = true := by rw [hin.out, hA, hB, hC, hD]; rfl
          have hfit := Lib.hid (HFT.out hx)
          have hres : Hid (netOk f a = treeFree f a) := Lib.hid (by unfold netOk; rw [hx]; rfl)
          go_quiet (first | (go_at_call 24; exact Calls.quiet_of_same ((l00In_any _ _ _ _).mono (fun e w9 h => ⟨h.1.trans (by rw [hA]), h.2.symm⟩))) | (go_at_call 24; exact Calls.quiet_of_same ((l00In_any _ _ _ _).mono (fun e w9 h => ⟨h.1.trans (by rw [hB]), h.2.symm⟩))) | (go_at_call 24; exact Calls.quiet_of_same ((l00In_any _ _ _ _).mono (fun e w9 h => ⟨h.1.trans (by rw [hC]), h.2.symm⟩))) | (go_at_call 24; exact Calls.quiet_of_same ((l00In_any _ _ _ _).mono (fun e w9 h => ⟨h.1.trans (by rw [hD]), h.2.symm⟩))))
          clear hA hB hC hD hx c0 c1 c2 c3 d0 d1 hin HFT
          generalize hW2' : World.drewN _ _ = W2
          have M1 : Hid (Mem w W2 [⟨w.heap.size, #[.int .i8 (a 0), .int .i8 (a 1), .int .i8 (a 2), .int .i8 (a 3)], 33⟩]) := Lib.hid (by rw [← hW2']; exact M.drewN _)
          have B2 : Hid (Blk W2 b (fcells f) 31) := Lib.hid (by rw [← hW2']; exact B1.out.drewN _)
          clear hW2' M B1
          go_wp2_with fail
          go_loopw [7] (fun i wr => ∃ k : Nat, k ≤ 100 ∧ i = .int .i64 k ∧ Hid (Mem w wr [⟨w.heap.size, #[.int .i8 (a 0), .int .i8 (a 1), .int .i8 (a 2), .int .i8 (a 3)], 33⟩]) ∧ Hid (Blk wr b (fcells f) 31) ∧ Hid (∀ j, j < k → (!(insA a j && treeQ f j)) = true)) (fun i _ => 100 - (intOf i).toNat)
          case atStart => exact ⟨0, by omega, rfl, M1, B2, Lib.hid (fun j hj => by omega)⟩
          case round =>
            clear M1 B2
            obtain ⟨k, hk, rfl, hM, hB, hall⟩ := hrel
            by_cases hlt : k < 100
            · obtain ⟨p1, p2⟩ := hf.K k hlt
              cases hi : insA a k with
              | false =>
                have hn : Hid ((!(insA a k && treeQ f k)) = true) := Lib.hid (by rw [hi]; rfl)
                go_wp2_with (first
                  | (go_at_call 28; refine (inside_any a hfit.out k hlt _).mono ?_; rintro e W3 ⟨rfl, hb⟩; rw [hi]; go_wp2_with fail)
                  | (refine wpList_load_part rfl 33 _ rfl w.heap.size 0 rfl #[.int .i8 (a 0), .int .i8 (a 1), .int .i8 (a 2), .int .i8 (a 3)] _ (hM.out.at 0 rfl).whole Try.underlying33 rfl (by kernel_rfl) ?_))
                go_roundw
                case rel => exact ⟨k + 1, by omega, by go_num, Lib.hid (hM.out.call hb), Lib.hid (hB.out.later hb), Lib.hid (upto_succ hall.out hn.out)⟩
                case measure => simp [intOf]; omega
              | true =>
                by_cases ht : f.K k = 3
                · have hx : Hid (treeFree f a = false) := Lib.hid (allTo_false hlt (by rw [hi]; unfold treeQ; rw [ht]; rfl))
                  go_wp2_with (first
                    | (go_at_call 28; refine (inside_any a hfit.out k hlt _).mono ?_; rintro e W3 ⟨rfl, hb⟩; rw [hi]; have cK := (hB.out.later hb).cell (fcells_K f k hlt); go_wp2_with fail)
                    | (refine wpList_load_part rfl 33 _ rfl w.heap.size 0 rfl #[.int .i8 (a 0), .int .i8 (a 1), .int .i8 (a 2), .int .i8 (a 3)] _ (hM.out.at 0 rfl).whole Try.underlying33 rfl (by kernel_rfl) ?_))
                  go_ret
                  exact ⟨by rw [hres.out, hx.out]; rfl, (hM.out.call hb).below⟩
                · have hn : Hid ((!(insA a k && treeQ f k)) = true) := Lib.hid (by
                    rw [hi]; unfold treeQ
                    rw [show (f.K k == 3) = false by simpa using ht]; rfl)
                  go_wp2_with (first
                    | (go_at_call 28; refine (inside_any a hfit.out k hlt _).mono ?_; rintro e W3 ⟨rfl, hb⟩; rw [hi]; have cK := (hB.out.later hb).cell (fcells_K f k hlt); go_wp2_with fail)
                    | (refine wpList_load_part rfl 33 _ rfl w.heap.size 0 rfl #[.int .i8 (a 0), .int .i8 (a 1), .int .i8 (a 2), .int .i8 (a 3)] _ (hM.out.at 0 rfl).whole Try.underlying33 rfl (by kernel_rfl) ?_))
                  go_roundw
                  case rel => exact ⟨k + 1, by omega, by go_num, Lib.hid (hM.out.call hb), Lib.hid (hB.out.later hb), Lib.hid (upto_succ hall.out hn.out)⟩
                  case measure => simp [intOf]; omega
            · obtain rfl : k = 100 := by omega
              have hx : Hid (treeFree f a = true) := Lib.hid (allTo_iff.2 hall.out)
              go_wp2_with fail
              go_ret
              exact ⟨by rw [hres.out, hx.out]; rfl, hM.out.below⟩
end
section
open Go Go.RowKit

def netsCode (f : Fd) (n : Nat) (F : Nat → Nat → Int) : Int := if okF f && netsOk f n F then (if 20 < n then 3 else 0) else 1
theorem code_bad {f : Fd} {n : Nat} {F : Nat → Nat → Int} (h : okF f = false) : netsCode f n F = 1 := by unfold netsCode; rw [h]; rfl
theorem code_net {f : Fd} {n : Nat} {F : Nat → Nat → Int} (h : netsOk f n F = false) : netsCode f n F = 1 := by unfold netsCode; rw [h, Bool.and_false]; rfl
theorem code_many {f : Fd} {n : Nat} {F : Nat → Nat → Int} (h : okF f = true) (h2 : netsOk f n F = true) (h3 : 20 < n) : netsCode f n F = 3 := by unfold netsCode; rw [h, h2, if_pos (show (true && true) = true from rfl), if_pos h3]
theorem code_ok {f : Fd} {n : Nat} {F : Nat → Nat → Int} (h : okF f = true) (h2 : netsOk f n F = true) (h3 : ¬ 20 < n) : netsCode f n F = 0 := by unfold netsCode; rw [h, h2, if_pos (show (true && true) = true from rfl), if_neg h3]
theorem code_0 {f : Fd} {n : Nat} {F : Nat → Nat → Int} (h : netsCode f n F = 0) : okF f = true ∧ netsOk f n F = true ∧ n ≤ 20 := by
  cases h1 : okF f with
  | false => rw [code_bad h1] at h; omega
  | true =>
    cases h2 : netsOk f n F with
    | false => rw [code_net h2] at h; omega
    | true =>
      refine ⟨rfl, rfl, ?_⟩
      by_cases h3 : 20 < n
      · rw [code_many h1 h2 h3] at h; omega
      · omega
theorem code_fits {f : Fd} {n : Nat} {F : Nat → Nat → Int} (hok : okF f = true) (h : netsOk f n F = true) : ∀ i, i < n → NetFits (F i) := fun i hi => by
  have h1 := allTo_iff.1 h i hi
  simp only [netOk, Bool.and_eq_true] at h1
  obtain ⟨_, hW, _, hH⟩ := okF_size hok
  exact netIn_fits hW hH h1.1
/-- What the first n nets cover; what two of them cover. -/
def cov (F : Nat → Nat → Int) : Nat → Nat → Int
  | 0 => fun _ => 0
  | n + 1 => joinC .or (cov F n) (undA (F n))
def twi (F : Nat → Nat → Int) : Nat → Nat → Int
  | 0 => fun _ => 0
  | n + 1 => joinC .or (twi F n) (joinC .and (cov F n) (undA (F n)))
theorem cov_N100 (F : Nat → Nat → Int) : ∀ n, N100 (cov F n)
  | 0 => zero_N100
  | n + 1 => or_N100 (cov_N100 F n) (undA_N100 _)
theorem twi_N100 (F : Nat → Nat → Int) : ∀ n, N100 (twi F n)
  | 0 => zero_N100
  | n + 1 => or_N100 (twi_N100 F n) (and_N100 (cov_N100 F n) (undA_N100 _).1)
end
end Go.Proofs.Ytniibbgcdaijfaa
