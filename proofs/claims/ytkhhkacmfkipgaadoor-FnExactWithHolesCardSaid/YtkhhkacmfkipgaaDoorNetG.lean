/-
  The model of nets: what is in a net, which nets are valid, the set of a net's cells.
  The model of several nets: their check, what they cover, what two of them cover.
-/
import Derived.Test.YtkhhkacmfkipgaaDoorNetB
import Derived.Test.YtkhhkacmfkipgaaDoorNetD
import Derived.Test.YtkhhkacmfkipgaaDoorStrEq
namespace Go.Proofs.YtkhhkacmfkipgaaDoor
section
open Go Go.RowKit

theorem insA_in {a : Nat → Int} (h : NetFits a) {c : Nat} : (inB ((c : Int) % 10) (a 0) (a 0 + a 2 - 1) && inB ((c : Int) / 10) (a 1) (a 1 + a 3 - 1)) = insA a c := by
  obtain ⟨x0, y0, w1, h1, x2, y2⟩ := h
  rw [Bool.eq_iff_iff]
  simp only [insA, ins, inB, Bool.and_eq_true, decide_eq_true_eq]
  omega
theorem fits_wf {a : Nat → Int} (h : NetFits a) : WfN a := by
  obtain ⟨x0, y0, w1, h1, x2, y2⟩ := h
  constructor <;> omega
set_option maxRecDepth 100000 in
set_option maxHeartbeats 2000000 in
theorem inside_any (a : Nat → Int) (h : NetFits a) (c : Nat) (hc : c < 100) (w : World) : Calls Tryd.prog 62 #[vNet a, .int .i64 c] w fun e w' => e = .returned (.bool (insA a c)) ∧ Below w.heap.size w w' := by
  have hres := Lib.hid (insA_in h (c := c))
  obtain ⟨x0, y0, w1, h1, x2, y2⟩ := h
  have hw1 : Hid (wrap64 ((c : Int) / 10) = (c : Int) / 10) := Lib.hid (by unfold wrap64; omega)
  have hq : ((c : Int).tdiv 10) = (c : Int) / 10 := Int.tdiv_eq_ediv_of_nonneg (by omega)
  have hr : ((c : Int).tmod 10) = (c : Int) % 10 := Int.tmod_eq_emod_of_nonneg (by omega)
  go_enter Tryd.func62, Tryd.ntmps62
  go_upto_region 1 with (fail)
  obtain ⟨W, hW, M⟩ := open1 w #[.int .i8 (a 0), .int .i8 (a 1), .int .i8 (a 2), .int .i8 (a 3)] 34
  rw [hW]; clear hW
  have c0 := (M.at 0 rfl).cell (i := 0) rfl
  have c1 := (M.at 0 rfl).cell (i := 1) rfl
  have c2 := (M.at 0 rfl).cell (i := 2) rfl
  have c3 := (M.at 0 rfl).cell (i := 3) rfl
  go_upto_region 3 with (fail)
  have ok1 : True := trivial
  cases hA : inB ((c : Int) % 10) (a 0) (a 0 + a 2 - 1) with
  | false =>
    rw [hA] at hres
    go_wp2_with (go_at_call 67; refine (l00In_any _ _ _ _).mono ?_; rintro e w' ⟨rfl, rfl⟩; rw [hA])
    go_ret
    exact ⟨by rw [← hres.out]; rfl, M.below⟩
  | true =>
    rw [hA] at hres
    go_wp2_with (first
      | (clear ok1; go_at_call 67; refine (l00In_any _ _ _ _).mono ?_; rintro e w' ⟨rfl, rfl⟩; rw [hA])
      | (go_at_call 67; refine (l00In_any _ _ _ _).mono ?_; rintro e w' ⟨rfl, rfl⟩))
    go_ret
    exact ⟨by rw [← hres.out]; rfl, M.below⟩
/-- Where the checks of a net's place fall. -/
theorem netIn_of {f : Fd} {a : Nat → Int} : netIn f a = (inB (a 0) 0 (f.W - 1) && inB (a 1) 0 (f.H - 1) && inB (a 2) 1 (f.W - a 0) && inB (a 3) 1 (f.H - a 1)) := by
  rw [Bool.eq_iff_iff]
  simp only [netIn, placeIn, inB, Bool.and_eq_true, decide_eq_true_eq]
  omega
set_option maxRecDepth 100000 in
set_option maxHeartbeats 4000000 in
theorem l04Net_any (f : Fd) (hf : f.Wf) (hok : okF f = true) (a : Nat → Int) (ha : WfN a) (b : Nat) (w : World) (B : Blk w b (fcells f) 32) :
    Calls Tryd.prog 53 #[.pointer (some ⟨b, 0, none⟩), vNet a] w fun e w' => e = .returned (.bool (netOk f a)) ∧ Below w.heap.size w w' := by
  obtain ⟨hW1, hW2, hH1, hH2⟩ := okF_size hok
  have HFT : Hid (netIn f a = true → NetFits a) := Lib.hid (netIn_fits hW2 hH2)
  have hin := Lib.hid (netIn_of (f := f) (a := a))
  obtain ⟨⟨x1, x2⟩, ⟨y1, y2⟩, ⟨u1, u2⟩, ⟨v1, v2⟩⟩ := ha
  go_enter Tryd.func53, Tryd.ntmps53
  go_upto_region 1 with (fail)
  obtain ⟨W, hW, M⟩ := open1 w #[.int .i8 (a 0), .int .i8 (a 1), .int .i8 (a 2), .int .i8 (a 3)] 34
  have B1 : Hid (Blk W b (fcells f) 32) := Lib.hid (by rw [← hW]; exact B.alloc _)
  rw [hW]; clear hW B
  have c0 := (M.at 0 rfl).cell (i := 0) rfl
  have c1 := (M.at 0 rfl).cell (i := 1) rfl
  have c2 := (M.at 0 rfl).cell (i := 2) rfl
  have c3 := (M.at 0 rfl).cell (i := 3) rfl
  have d0 := B1.out.cell (fcells_0 f)
  have d1 := B1.out.cell (fcells_1 f)
  go_upto_region 3 with (fail)
  have ok1 : True := trivial
  cases hA : inB (a 0) 0 (f.W - 1) with
  | false =>
    have hx : Hid (netOk f a = false) := Lib.hid (by unfold netOk; rw [hin.out, hA]; rfl)
    go_quiet (first | (go_at_call 67; exact Calls.quiet_of_same ((l00In_any _ _ _ _).mono (fun e w9 h => ⟨h.1.trans (by rw [hA]), h.2.symm⟩))))
    go_wp2_with fail
    go_ret
    exact ⟨by rw [hx.out]; rfl, (M.drewN _).below⟩
  | true =>
    cases hB : inB (a 1) 0 (f.H - 1) with
    | false =>
      have hx : Hid (netOk f a = false) := Lib.hid (by unfold netOk; rw [hin.out, hA, hB]; rfl)
      go_quiet (first | (go_at_call 67; exact Calls.quiet_of_same ((l00In_any _ _ _ _).mono (fun e w9 h => ⟨h.1.trans (by rw [hA]), h.2.symm⟩))) | (go_at_call 67; exact Calls.quiet_of_same ((l00In_any _ _ _ _).mono (fun e w9 h => ⟨h.1.trans (by rw [hB]), h.2.symm⟩))))
      go_wp2_with fail
      go_ret
      exact ⟨by rw [hx.out]; rfl, (M.drewN _).below⟩
    | true =>
      cases hC : inB (a 2) 1 (f.W - a 0) with
      | false =>
        have hx : Hid (netOk f a = false) := Lib.hid (by unfold netOk; rw [hin.out, hA, hB, hC]; rfl)
        go_quiet (first | (go_at_call 67; exact Calls.quiet_of_same ((l00In_any _ _ _ _).mono (fun e w9 h => ⟨h.1.trans (by rw [hA]), h.2.symm⟩))) | (go_at_call 67; exact Calls.quiet_of_same ((l00In_any _ _ _ _).mono (fun e w9 h => ⟨h.1.trans (by rw [hB]), h.2.symm⟩))) | (go_at_call 67; exact Calls.quiet_of_same ((l00In_any _ _ _ _).mono (fun e w9 h => ⟨h.1.trans (by rw [hC]), h.2.symm⟩))))
        go_wp2_with fail
        go_ret
        exact ⟨by rw [hx.out]; rfl, (M.drewN _).below⟩
      | true =>
        cases hD : inB (a 3) 1 (f.H - a 1) with
        | false =>
          have hx : Hid (netOk f a = false) := Lib.hid (by unfold netOk; rw [hin.out, hA, hB, hC, hD]; rfl)
          go_quiet (first | (go_at_call 67; exact Calls.quiet_of_same ((l00In_any _ _ _ _).mono (fun e w9 h => ⟨h.1.trans (by rw [hA]), h.2.symm⟩))) | (go_at_call 67; exact Calls.quiet_of_same ((l00In_any _ _ _ _).mono (fun e w9 h => ⟨h.1.trans (by rw [hB]), h.2.symm⟩))) | (go_at_call 67; exact Calls.quiet_of_same ((l00In_any _ _ _ _).mono (fun e w9 h => ⟨h.1.trans (by rw [hC]), h.2.symm⟩))) | (go_at_call 67; exact Calls.quiet_of_same ((l00In_any _ _ _ _).mono (fun e w9 h => ⟨h.1.trans (by rw [hD]), h.2.symm⟩))))
          go_wp2_with fail
          go_ret
          exact ⟨by rw [hx.out]; rfl, (M.drewN _).below⟩
        | true =>
          have hx : netIn f a = true := by rw [hin.out, hA, hB, hC, hD]; rfl
          have hfit := Lib.hid (HFT.out hx)
          have hres : Hid (netOk f a = treeFree f a) := Lib.hid (by unfold netOk; rw [hx]; rfl)
          go_quiet (first | (go_at_call 67; exact Calls.quiet_of_same ((l00In_any _ _ _ _).mono (fun e w9 h => ⟨h.1.trans (by rw [hA]), h.2.symm⟩))) | (go_at_call 67; exact Calls.quiet_of_same ((l00In_any _ _ _ _).mono (fun e w9 h => ⟨h.1.trans (by rw [hB]), h.2.symm⟩))) | (go_at_call 67; exact Calls.quiet_of_same ((l00In_any _ _ _ _).mono (fun e w9 h => ⟨h.1.trans (by rw [hC]), h.2.symm⟩))) | (go_at_call 67; exact Calls.quiet_of_same ((l00In_any _ _ _ _).mono (fun e w9 h => ⟨h.1.trans (by rw [hD]), h.2.symm⟩))))
          clear hA hB hC hD hx c0 c1 c2 c3 d0 d1 hin HFT
          generalize hW2' : World.drewN _ _ = W2
          have M1 : Hid (Mem w W2 [⟨w.heap.size, #[.int .i8 (a 0), .int .i8 (a 1), .int .i8 (a 2), .int .i8 (a 3)], 34⟩]) := Lib.hid (by rw [← hW2']; exact M.drewN _)
          have B2 : Hid (Blk W2 b (fcells f) 32) := Lib.hid (by rw [← hW2']; exact B1.out.drewN _)
          clear hW2' M B1
          go_wp2_with fail
          go_loopw [7] (fun i wr => ∃ k : Nat, k ≤ 100 ∧ i = .int .i64 k ∧ Hid (Mem w wr [⟨w.heap.size, #[.int .i8 (a 0), .int .i8 (a 1), .int .i8 (a 2), .int .i8 (a 3)], 34⟩]) ∧ Hid (Blk wr b (fcells f) 32) ∧ Hid (∀ j, j < k → (!(insA a j && treeQ f j)) = true)) (fun i _ => 100 - (intOf i).toNat)
          case atStart => exact ⟨0, by omega, rfl, M1, B2, Lib.hid (fun j hj => by omega)⟩
          case round =>
            clear M1 B2
            obtain ⟨k, hk, rfl, hM, hB, hall⟩ := hrel
            by_cases hlt : k < 100
            · obtain ⟨p1, p2⟩ := hf.K k hlt
              cases hi : insA a k with
              | false =>
                have hn : Hid ((!(insA a k && treeQ f k)) = true) := Lib.hid (by rw [hi]; rfl)
                go_wp2_with (first
                  | (go_at_call 62; refine (inside_any a hfit.out k hlt _).mono ?_; rintro e W3 ⟨rfl, hb⟩; rw [hi]; go_wp2_with fail)
                  | (refine wpList_load_part rfl 34 _ rfl w.heap.size 0 rfl #[.int .i8 (a 0), .int .i8 (a 1), .int .i8 (a 2), .int .i8 (a 3)] _ (hM.out.at 0 rfl).whole Tryd.underlying34 rfl (by kernel_rfl) ?_))
                go_roundw
                case rel => exact ⟨k + 1, by omega, by go_num, Lib.hid (hM.out.call hb), Lib.hid (hB.out.later hb), Lib.hid (upto_succ hall.out hn.out)⟩
                case measure => simp [intOf]; omega
              | true =>
                by_cases ht : f.K k = 3
                · have hx : Hid (treeFree f a = false) := Lib.hid (allTo_false hlt (by rw [hi]; unfold treeQ; rw [ht]; rfl))
                  go_wp2_with (first
                    | (go_at_call 62; refine (inside_any a hfit.out k hlt _).mono ?_; rintro e W3 ⟨rfl, hb⟩; rw [hi]; have cK := (hB.out.later hb).cell (fcells_K f k hlt); go_wp2_with fail)
                    | (refine wpList_load_part rfl 34 _ rfl w.heap.size 0 rfl #[.int .i8 (a 0), .int .i8 (a 1), .int .i8 (a 2), .int .i8 (a 3)] _ (hM.out.at 0 rfl).whole Tryd.underlying34 rfl (by kernel_rfl) ?_))
                  go_ret
                  exact ⟨by rw [hres.out, hx.out]; rfl, (hM.out.call hb).below⟩
                · have hn : Hid ((!(insA a k && treeQ f k)) = true) := Lib.hid (by
                    rw [hi]; unfold treeQ
                    rw [show (f.K k == 3) = false by simpa using ht]; rfl)
                  go_wp2_with (first
                    | (go_at_call 62; refine (inside_any a hfit.out k hlt _).mono ?_; rintro e W3 ⟨rfl, hb⟩; rw [hi]; have cK := (hB.out.later hb).cell (fcells_K f k hlt); go_wp2_with fail)
                    | (refine wpList_load_part rfl 34 _ rfl w.heap.size 0 rfl #[.int .i8 (a 0), .int .i8 (a 1), .int .i8 (a 2), .int .i8 (a 3)] _ (hM.out.at 0 rfl).whole Tryd.underlying34 rfl (by kernel_rfl) ?_))
                  go_roundw
                  case rel => exact ⟨k + 1, by omega, by go_num, Lib.hid (hM.out.call hb), Lib.hid (hB.out.later hb), Lib.hid (upto_succ hall.out hn.out)⟩
                  case measure => simp [intOf]; omega
            · obtain rfl : k = 100 := by omega
              have hx : Hid (treeFree f a = true) := Lib.hid (allTo_iff.2 hall.out)
              go_wp2_with fail
              go_ret
              exact ⟨by rw [hres.out, hx.out]; rfl, hM.out.below⟩
set_option maxRecDepth 100000 in
set_option maxHeartbeats 2000000 in
theorem l04Under_any (a : Nat → Int) (h : NetFits a) (w : World) : Calls Tryd.prog 39 #[vNet a] w fun e w' => e = .returned (.agg (acells .u64 2 (undA a))) ∧ Below w.heap.size w w' := by
  have H := Lib.hid h
  clear h
  go_enter Tryd.func39, Tryd.ntmps39
  go_upto_region 2 with (fail)
  rw [zero2]
  obtain ⟨W, hW, M⟩ := open3 w #[.int .i8 (a 0), .int .i8 (a 1), .int .i8 (a 2), .int .i8 (a 3)] 34 (acells .u64 2 (fun _ => 0)) 39 (acells .u64 2 (fun _ => 0)) 39
  rw [hW]; clear hW
  have M0 : Hid (Mem w W [⟨w.heap.size, #[.int .i8 (a 0), .int .i8 (a 1), .int .i8 (a 2), .int .i8 (a 3)], 34⟩, ⟨w.heap.size + 1, acells .u64 2 (fun _ => 0), 39⟩, ⟨w.heap.size + 1 + 1, acells .u64 2 (und (a 0).toNat (a 1).toNat (a 2).toNat (a 3).toNat 0), 39⟩]) := Lib.hid M
  clear M
  go_wp2_with fail
  go_loopw [4] (fun i wr => ∃ k : Nat, k ≤ 100 ∧ i = .int .i64 k ∧ Hid (Mem w wr [⟨w.heap.size, #[.int .i8 (a 0), .int .i8 (a 1), .int .i8 (a 2), .int .i8 (a 3)], 34⟩, ⟨w.heap.size + 1, acells .u64 2 (fun _ => 0), 39⟩, ⟨w.heap.size + 1 + 1, acells .u64 2 (und (a 0).toNat (a 1).toNat (a 2).toNat (a 3).toNat k), 39⟩])) (fun i _ => 100 - (intOf i).toNat)
  case atStart => exact ⟨0, by omega, rfl, M0⟩
  case round =>
    clear M0
    obtain ⟨k, hk, rfl, hM⟩ := hrel
    by_cases hlt : k < 100
    · cases hi : insA a k with
      | false =>
        have hn := Lib.hid (und_no (X := (a 0).toNat) (Y := (a 1).toNat) (Wd := (a 2).toNat) (Hg := (a 3).toNat) (n := k) hi)
        go_wp2_with (first
          | (go_at_call 62; refine (inside_any a H.out k hlt _).mono ?_; rintro e W3 ⟨rfl, hb⟩; rw [hi]; go_wp2_with fail)
          | (refine wpList_load_part rfl 34 _ rfl w.heap.size 0 rfl #[.int .i8 (a 0), .int .i8 (a 1), .int .i8 (a 2), .int .i8 (a 3)] _ (hM.out.at 0 rfl).whole Tryd.underlying34 rfl (by kernel_rfl) ?_))
        go_roundw
        case rel => exact ⟨k + 1, by omega, by go_num, by rw [hn.out]; exact Lib.hid (hM.out.call hb)⟩
        case measure => simp [intOf]; omega
      | true =>
        have hn := Lib.hid (und_yes (X := (a 0).toNat) (Y := (a 1).toNat) (Wd := (a 2).toNat) (Hg := (a 3).toNat) (n := k) hi)
        go_wp2_with (first
          | (go_at_call 62; refine (inside_any a H.out k hlt _).mono ?_; rintro e W3 ⟨rfl, hb⟩; rw [hi]; have M3 := Lib.hid (hM.out.call hb))
          | (go_at_call 63; refine (l01Put_any _ k hlt _ _ (M3.out.at 2 rfl)).mono ?_; rintro e w2 ⟨⟨_, rfl⟩, i, vv, hw2, hset⟩; have M5 := Lib.hid (M3.out.set 2 i vv rfl _ hset).drew; rw [hw2] at M5)
          | (refine wpList_load_part rfl 34 _ rfl w.heap.size 0 rfl #[.int .i8 (a 0), .int .i8 (a 1), .int .i8 (a 2), .int .i8 (a 3)] _ (hM.out.at 0 rfl).whole Tryd.underlying34 rfl (by kernel_rfl) ?_))
        go_roundw
        case rel => exact ⟨k + 1, by omega, by go_num, by rw [hn.out]; exact M5⟩
        case measure => simp [intOf]; omega
    · obtain rfl : k = 100 := by omega
      have M9 := hM.out
      go_wp2_with (first
        | (refine wpList_load_part rfl 39 _ rfl (w.heap.size + 1 + 1) 0 rfl (acells .u64 2 (undA a)) _ (M9.at 2 rfl).whole Tryd.underlying39 rfl (by rw [acells_size]; exact sizeC) ?_)
        | (refine wpList_store_row rfl 39 _ _ rfl (w.heap.size + 1) (acells .u64 2 (undA a)) rfl rfl 39 _ (M9.at 1 rfl) (by rw [acells_size]; exact sizeC) (by simp only [acells_size]) (acells_one _ _ _) ?_))
      have M10 := M9.row 1 rfl (acells .u64 2 (undA a))
      exact bodyPost_ret (results_cell_row rfl _ _ (w.heap.size + 1) 39 _ _ _ rfl (M10.at 1 rfl) Tryd.underlying39 rfl (by rw [acells_size]; exact sizeC)) rfl ⟨rfl, M10.below⟩
end
section
open Go Go.RowKit

def netsCode (f : Fd) (n : Nat) (F : Nat → Nat → Int) : Int := if okF f && netsOk f n F then (if 20 < n then 3 else 0) else 1
theorem code_bad {f : Fd} {n : Nat} {F : Nat → Nat → Int} (h : okF f = false) : netsCode f n F = 1 := by unfold netsCode; rw [h]; rfl
theorem code_net {f : Fd} {n : Nat} {F : Nat → Nat → Int} (h : netsOk f n F = false) : netsCode f n F = 1 := by unfold netsCode; rw [h, Bool.and_false]; rfl
theorem code_many {f : Fd} {n : Nat} {F : Nat → Nat → Int} (h : okF f = true) (h2 : netsOk f n F = true) (h3 : 20 < n) : netsCode f n F = 3 := by unfold netsCode; rw [h, h2, if_pos (show (true && true) = true from rfl), if_pos h3]
theorem code_ok {f : Fd} {n : Nat} {F : Nat → Nat → Int} (h : okF f = true) (h2 : netsOk f n F = true) (h3 : ¬ 20 < n) : netsCode f n F = 0 := by unfold netsCode; rw [h, h2, if_pos (show (true && true) = true from rfl), if_neg h3]
theorem code_0 {f : Fd} {n : Nat} {F : Nat → Nat → Int} (h : netsCode f n F = 0) : okF f = true ∧ netsOk f n F = true ∧ n ≤ 20 := by
  cases h1 : okF f with
  | false => rw [code_bad h1] at h; omega
  | true =>
    cases h2 : netsOk f n F with
    | false => rw [code_net h2] at h; omega
    | true =>
      refine ⟨rfl, rfl, ?_⟩
      by_cases h3 : 20 < n
      · rw [code_many h1 h2 h3] at h; omega
      · omega
theorem code_fits {f : Fd} {n : Nat} {F : Nat → Nat → Int} (hok : okF f = true) (h : netsOk f n F = true) : ∀ i, i < n → NetFits (F i) := fun i hi => by
  have h1 := allTo_iff.1 h i hi
  simp only [netOk, Bool.and_eq_true] at h1
  obtain ⟨_, hW, _, hH⟩ := okF_size hok
  exact netIn_fits hW hH h1.1
/-- What the first n nets cover; what two of them cover. -/
def cov (F : Nat → Nat → Int) : Nat → Nat → Int
  | 0 => fun _ => 0
  | n + 1 => joinC .or (cov F n) (undA (F n))
def twi (F : Nat → Nat → Int) : Nat → Nat → Int
  | 0 => fun _ => 0
  | n + 1 => joinC .or (twi F n) (joinC .and (cov F n) (undA (F n)))
theorem cov_N100 (F : Nat → Nat → Int) : ∀ n, N100 (cov F n)
  | 0 => zero_N100
  | n + 1 => or_N100 (cov_N100 F n) (undA_N100 _)
theorem twi_N100 (F : Nat → Nat → Int) : ∀ n, N100 (twi F n)
  | 0 => zero_N100
  | n + 1 => or_N100 (twi_N100 F n) (and_N100 (cov_N100 F n) (undA_N100 _).1)
set_option maxRecDepth 100000 in
set_option maxHeartbeats 400000 in
theorem l04Join_any (f g : Nat → Int) (w : World) : Calls Tryd.prog 48 #[.agg (acells .u64 2 f), .agg (acells .u64 2 g)] w fun e w' => e = .returned (.agg (acells .u64 2 (joinC .or f g))) ∧ Below w.heap.size w w' := by
  go_enter Tryd.func48, Tryd.ntmps48
  go_upto_region 1 with (fail)
  obtain ⟨W, hW, M⟩ := open3 w (acells .u64 2 f) 39 (acells .u64 2 g) 39 #[.int .u64 0, .int .u64 0] 39
  rw [hW]; clear hW
  have c0 := (M.at 0 rfl).cell (acells_get _ _ f 0 (by omega))
  have c1 := (M.at 0 rfl).cell (acells_get _ _ f 1 (by omega))
  have g0 := (M.at 1 rfl).cell (acells_get _ _ g 0 (by omega))
  have g1 := (M.at 1 rfl).cell (acells_get _ _ g 1 (by omega))
  have d0 := (M.at 2 rfl).cell (i := 0) (v := .int .u64 0) rfl
  have d1 := (M.at 2 rfl).cell (i := 1) (v := .int .u64 0) rfl
  have e0 := (M.at 2 rfl).free 0
  have e1 := (M.at 2 rfl).free 1
  go_wp2_with fail
  have M2 := (M.set 2 0 (.int .u64 (joinC .or f g 0)) rfl _ rfl).set 2 1 (.int .u64 (joinC .or f g 1)) rfl _ rfl
  exact bodyPost_ret (results_cell_row rfl _ _ (w.heap.size + 1 + 1) 39 _ _ _ rfl (M2.at 2 rfl) Tryd.underlying39 rfl (by kernel_rfl)) rfl ⟨rfl, M2.below⟩
set_option maxRecDepth 100000 in
set_option maxHeartbeats 400000 in
theorem l04Meet_any (f g : Nat → Int) (w : World) : Calls Tryd.prog 49 #[.agg (acells .u64 2 f), .agg (acells .u64 2 g)] w fun e w' => e = .returned (.agg (acells .u64 2 (joinC .and f g))) ∧ Below w.heap.size w w' := by
  go_enter Tryd.func49, Tryd.ntmps49
  go_upto_region 1 with (fail)
  obtain ⟨W, hW, M⟩ := open3 w (acells .u64 2 f) 39 (acells .u64 2 g) 39 #[.int .u64 0, .int .u64 0] 39
  rw [hW]; clear hW
  have c0 := (M.at 0 rfl).cell (acells_get _ _ f 0 (by omega))
  have c1 := (M.at 0 rfl).cell (acells_get _ _ f 1 (by omega))
  have g0 := (M.at 1 rfl).cell (acells_get _ _ g 0 (by omega))
  have g1 := (M.at 1 rfl).cell (acells_get _ _ g 1 (by omega))
  have d0 := (M.at 2 rfl).cell (i := 0) (v := .int .u64 0) rfl
  have d1 := (M.at 2 rfl).cell (i := 1) (v := .int .u64 0) rfl
  have e0 := (M.at 2 rfl).free 0
  have e1 := (M.at 2 rfl).free 1
  go_wp2_with fail
  have M2 := (M.set 2 0 (.int .u64 (joinC .and f g 0)) rfl _ rfl).set 2 1 (.int .u64 (joinC .and f g 1)) rfl _ rfl
  exact bodyPost_ret (results_cell_row rfl _ _ (w.heap.size + 1 + 1) 39 _ _ _ rfl (M2.at 2 rfl) Tryd.underlying39 rfl (by kernel_rfl)) rfl ⟨rfl, M2.below⟩
set_option maxRecDepth 100000 in
set_option maxHeartbeats 400000 in
theorem l04Less_any (f g : Nat → Int) (w : World) : Calls Tryd.prog 50 #[.agg (acells .u64 2 f), .agg (acells .u64 2 g)] w fun e w' => e = .returned (.agg (acells .u64 2 (joinC .andNot f g))) ∧ Below w.heap.size w w' := by
  go_enter Tryd.func50, Tryd.ntmps50
  go_upto_region 1 with (fail)
  obtain ⟨W, hW, M⟩ := open3 w (acells .u64 2 f) 39 (acells .u64 2 g) 39 #[.int .u64 0, .int .u64 0] 39
  rw [hW]; clear hW
  have c0 := (M.at 0 rfl).cell (acells_get _ _ f 0 (by omega))
  have c1 := (M.at 0 rfl).cell (acells_get _ _ f 1 (by omega))
  have g0 := (M.at 1 rfl).cell (acells_get _ _ g 0 (by omega))
  have g1 := (M.at 1 rfl).cell (acells_get _ _ g 1 (by omega))
  have d0 := (M.at 2 rfl).cell (i := 0) (v := .int .u64 0) rfl
  have d1 := (M.at 2 rfl).cell (i := 1) (v := .int .u64 0) rfl
  have e0 := (M.at 2 rfl).free 0
  have e1 := (M.at 2 rfl).free 1
  go_wp2_with fail
  have M2 := (M.set 2 0 (.int .u64 (joinC .andNot f g 0)) rfl _ rfl).set 2 1 (.int .u64 (joinC .andNot f g 1)) rfl _ rfl
  exact bodyPost_ret (results_cell_row rfl _ _ (w.heap.size + 1 + 1) 39 _ _ _ rfl (M2.at 2 rfl) Tryd.underlying39 rfl (by kernel_rfl)) rfl ⟨rfl, M2.below⟩
set_option maxRecDepth 100000 in
set_option maxHeartbeats 2000000 in
theorem l04Nets_some (f : Fd) (hf : f.Wf) (n : Nat) (hn : n ≤ 2 ^ 40) (F : Nat → Nat → Int) (hF : ∀ i, i < n → WfN (F i)) (b o c bf : Nat) (w : World) (B : Blk w bf (fcells f) 32) (I : InS w b o n ksNet F) :
    Calls Tryd.prog 40 #[.pointer (some ⟨bf, 0, none⟩), .slice (some ⟨b, o, none⟩) n c] w fun e w' => e = .returned (.int .i64 (netsCode f n F)) ∧ Below w.heap.size w w' := by
  have HI := Lib.hid I
  have HF := Lib.hid hF
  have HB := Lib.hid B
  clear I hF B
  cases hok : okF f with
  | false =>
    rw [code_bad hok]
    go_enter Tryd.func40, Tryd.ntmps40
    go_wp2_with (go_at_call 52; refine (l01Ok_any f hf bf _ HB.out).mono ?_; rintro e w' ⟨rfl, rfl⟩; rw [hok])
    go_ret
    exact ⟨rfl, Below.refl _ _⟩
  | true =>
    go_enter Tryd.func40, Tryd.ntmps40
    go_wp2_with (go_at_call 52; refine (l01Ok_any f hf bf _ HB.out).mono ?_; rintro e w' ⟨rfl, rfl⟩; rw [hok])
    go_loopw [5] (fun i wr => ∃ k : Nat, k ≤ n ∧ i = .int .i64 k ∧ Hid (Below w.heap.size w wr) ∧ Hid (∀ j, j < k → netOk f (F j) = true)) (fun i _ => n - (intOf i).toNat)
    case atStart => exact ⟨0, by omega, rfl, Lib.hid (Below.refl _ _), Lib.hid (fun j hj => by omega)⟩
    case round =>
      obtain ⟨k, hk, rfl, hb, hall⟩ := hrel
      by_cases hlt : k < n
      · have hr : wr.rangeAt b (o + k * 4) (#[.int .i8 (F k 0), .int .i8 (F k 1), .int .i8 (F k 2), .int .i8 (F k 3)] : Array Value).toList := HI.out.elem (ks := ksNet) (by decide) hb.out hlt
        have hwf := HF.out k hlt
        cases hq : netOk f (F k) with
        | false =>
          have hx : Hid (netsOk f n F = false) := Lib.hid (allTo_false hlt hq)
          go_wp2_with (first
            | (go_at_call 53; refine (l04Net_any f hf hok (F k) hwf bf _ (HB.out.later hb.out)).mono ?_; rintro e W3 ⟨rfl, hb3⟩; rw [hq]; clear hr; go_wp2_with fail)
            | (refine wpList_load_part rfl 34 _ rfl b (o + k * 4) rfl #[.int .i8 (F k 0), .int .i8 (F k 1), .int .i8 (F k 2), .int .i8 (F k 3)] _ hr Tryd.underlying34 rfl (by kernel_rfl) ?_))
          go_ret
          exact ⟨by rw [code_net hx.out]; rfl, hb.out.trans (hb3.mono hb.out.size)⟩
        | true =>
          have hq0 := Lib.hid hq
          go_wp2_with (first
            | (go_at_call 53; refine (l04Net_any f hf hok (F k) hwf bf _ (HB.out.later hb.out)).mono ?_; rintro e W3 ⟨rfl, hb3⟩; rw [hq]; clear hr; go_wp2_with fail)
            | (refine wpList_load_part rfl 34 _ rfl b (o + k * 4) rfl #[.int .i8 (F k 0), .int .i8 (F k 1), .int .i8 (F k 2), .int .i8 (F k 3)] _ hr Tryd.underlying34 rfl (by kernel_rfl) ?_))
          go_roundw
          case rel => exact ⟨k + 1, by omega, by go_num, Lib.hid (hb.out.trans (hb3.mono hb.out.size)), Lib.hid (upto_succ hall.out hq0.out)⟩
          case measure => simp [intOf]; omega
      · obtain rfl : k = n := by omega
        have hx : Hid (netsOk f k F = true) := Lib.hid (allTo_iff.2 hall.out)
        by_cases h20 : 20 < k
        · have hcode := Lib.hid (code_many hok hx.out h20)
          go_wp2_with fail
          go_ret
          exact ⟨by rw [hcode.out]; rfl, hb.out⟩
        · have hcode := Lib.hid (code_ok hok hx.out h20)
          go_wp2_with fail
          go_ret
          exact ⟨by rw [hcode.out]; rfl, hb.out⟩
set_option maxRecDepth 100000 in
set_option maxHeartbeats 4000000 in
theorem l04Covered_some (n : Nat) (hn : n ≤ 2 ^ 40) (F : Nat → Nat → Int) (hF : ∀ i, i < n → NetFits (F i)) (b o c : Nat) (w : World) (I : InS w b o n ksNet F) :
    Calls Tryd.prog 41 #[.slice (some ⟨b, o, none⟩) n c] w fun e w' => e = .returned (.agg (acells .u64 2 (cov F n))) ∧ Below w.heap.size w w' := by
  have HI := Lib.hid I
  have HF := Lib.hid hF
  clear I hF
  go_enter Tryd.func41, Tryd.ntmps41
  go_upto_region 2 with (fail)
  rw [zero2]
  obtain ⟨W, hW, M⟩ := open2 w (acells .u64 2 (fun _ => 0)) 39 (acells .u64 2 (fun _ => 0)) 39
  rw [hW]; clear hW
  have M0 : Hid (Mem w W [⟨w.heap.size, acells .u64 2 (fun _ => 0), 39⟩, ⟨w.heap.size + 1, acells .u64 2 (cov F 0), 39⟩]) := Lib.hid M
  clear M
  go_wp2_with fail
  go_loopw [4] (fun i wr => ∃ k : Nat, k ≤ n ∧ i = .int .i64 k ∧ Hid (Mem w wr [⟨w.heap.size, acells .u64 2 (fun _ => 0), 39⟩, ⟨w.heap.size + 1, acells .u64 2 (cov F k), 39⟩])) (fun i _ => n - (intOf i).toNat)
  case atStart => exact ⟨0, by omega, rfl, M0⟩
  case round =>
    clear M0
    obtain ⟨k, hk, rfl, hM⟩ := hrel
    by_cases hlt : k < n
    · have g1 : Hid (∀ w', Below w.heap.size w w' → w'.rangeAt b (o + k * 4) (#[.int .i8 (F k 0), .int .i8 (F k 1), .int .i8 (F k 2), .int .i8 (F k 3)] : Array Value).toList) := Lib.hid (fun w' hw' => InS.elem (ks := ksNet) HI.out (by decide) hw' hlt)
      have hfit := HF.out k hlt
      have hcov : Hid (cov F (k + 1) = joinC .or (cov F k) (undA (F k))) := Lib.hid rfl
      go_upto_region 5 with (fail)
      refine wp_region_rel_tail 7 (DL [dV (.agg (acells .u64 2 (cov F k))), dV (.slice (some ⟨b, o, none⟩) n c), dV (.int .i64 k), dV (.pointer (some ⟨b, o + k * 4, none⟩)), dV (vNet (F k)), dV (.agg (acells .u64 2 (undA (F k)))), dV (.agg (acells .u64 2 (joinC .or (cov F k) (undA (F k)))))]) (fun w' => Mem w w' [⟨w.heap.size, acells .u64 2 (fun _ => 0), 39⟩, ⟨w.heap.size + 1, acells .u64 2 (cov F k), 39⟩]) (by kernel_rfl) (by kernel_rfl) grows_mem
        (stays_DL (fun d hd => by
          simp only [List.mem_cons, List.mem_nil_iff, or_false] at hd
          rcases hd with rfl | rfl | rfl | rfl | rfl | rfl | rfl <;> exact stay_V)) hM.out.drew ?_
      refine rel_load 39 _ rfl (w.heap.size + 1) 0 rfl (acells .u64 2 (cov F k)) _ rfl rfl (fun w' hw' => (hw'.at 1 rfl).whole) Tryd.underlying39 rfl (by rw [acells_size]; exact sizeC) (fun _ => ?_)
      simp only [Act.put, List.setIfInBounds_toArray, List.set_cons_zero, List.set_cons_succ]
      refine rel_val _ rfl rfl (fun _ _ => rfl) (fun _ => ?_)
      simp only [Act.put, List.setIfInBounds_toArray, List.set_cons_zero, List.set_cons_succ]
      refine rel_val _ rfl rfl (fun _ _ => rfl) (fun _ => ?_)
      simp only [Act.put, List.setIfInBounds_toArray, List.set_cons_zero, List.set_cons_succ]
      refine rel_index 46 34 _ _ rfl b o n c 4 k rfl rfl hlt Tryd.underlying46 (by kernel_rfl) rfl rfl (fun _ => ?_)
      simp only [Act.put, List.setIfInBounds_toArray, List.set_cons_zero, List.set_cons_succ]
      refine rel_load 34 _ rfl b (o + k * 4) rfl #[.int .i8 (F k 0), .int .i8 (F k 1), .int .i8 (F k 2), .int .i8 (F k 3)] _ rfl rfl (fun w' hw' => g1.out w' hw'.below) Tryd.underlying34 rfl (by kernel_rfl) (fun _ => ?_)
      simp only [Act.put, List.setIfInBounds_toArray, List.set_cons_zero, List.set_cons_succ]
      refine rel_call (.agg (acells .u64 2 (undA (F k)))) 39 #[vNet (F k)] rfl rfl rfl rfl (enters_of Tryd.func39 (by kernel_rfl) rfl) (fun w' _ => l04Under_any (F k) hfit w') (fun _ => ?_)
      simp only [Act.put, List.setIfInBounds_toArray, List.set_cons_zero, List.set_cons_succ]
      refine rel_call (.agg (acells .u64 2 (joinC .or (cov F k) (undA (F k))))) 48 #[.agg (acells .u64 2 (cov F k)), .agg (acells .u64 2 (undA (F k)))] rfl rfl rfl rfl (enters_of Tryd.func48 (by kernel_rfl) rfl) (fun w' _ => l04Join_any _ _ w') (fun _ => ?_)
      simp only [Act.put, List.setIfInBounds_toArray, List.set_cons_zero, List.set_cons_succ]
      refine rel_nil (fun W5 inv => ?_)
      have M5 := inv.cls
      clear inv
      change wpList _ _ _ (_ :: []) _ _
      refine wpList_store_row rfl 39 _ _ rfl (w.heap.size + 1) (acells .u64 2 (joinC .or (cov F k) (undA (F k)))) rfl rfl 39 _ (M5.at 1 rfl) (by rw [acells_size]; exact sizeC) (by simp only [acells_size]) (acells_one _ _ _) ?_
      go_wp2_with fail
      have M6 := M5.row 1 rfl (acells .u64 2 (joinC .or (cov F k) (undA (F k))))
      go_roundw
      case rel => exact ⟨k + 1, by omega, by go_num, by rw [hcov.out]; exact Lib.hid M6⟩
      case measure => simp [intOf]; omega
    · obtain rfl : k = n := by omega
      have M9 := hM.out
      go_wp2_with (first
        | (refine wpList_load_part rfl 39 _ rfl (w.heap.size + 1) 0 rfl (acells .u64 2 (cov F k)) _ (M9.at 1 rfl).whole Tryd.underlying39 rfl (by rw [acells_size]; exact sizeC) ?_)
        | (refine wpList_store_row rfl 39 _ _ rfl w.heap.size (acells .u64 2 (cov F k)) rfl rfl 39 _ (M9.at 0 rfl) (by rw [acells_size]; exact sizeC) (by simp only [acells_size]) (acells_one _ _ _) ?_))
      have M10 := M9.row 0 rfl (acells .u64 2 (cov F k))
      exact bodyPost_ret (results_cell_row rfl _ _ w.heap.size 39 _ _ _ rfl (M10.at 0 rfl) Tryd.underlying39 rfl (by rw [acells_size]; exact sizeC)) rfl ⟨rfl, M10.below⟩
end
end Go.Proofs.YtkhhkacmfkipgaaDoor
