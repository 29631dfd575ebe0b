/-
  What a scarecrow covers from a cell, and which cells cover one: the model's.
-/
import Derived.Test.YtmdfmbkchiafhaaDoorTgtS
namespace Go.Proofs.YtmdfmbkchiafhaaDoor
open Go Go.RowKit

/-- Whether a place covers a soil cell. -/
def cvQ (f : Fd) (p : Nat) (x y : Int) (k : Nat) : Bool := f.K k == 0 && decide (y ≤ x / (1 + sq (p : Int) (k : Int)))
def cvS (f : Fd) (p : Nat) (x y : Int) : Nat → Int := wantSet f (cvQ f p x y) 100
/-- Whether a place can have a scarecrow, and covers a cell. -/
def cvrQ (f : Fd) (c : Nat) (x y : Int) (p : Nat) : Bool := (f.K p != 3) && hasC (cvS f p x y) (c : Int)
def cvrS (f : Fd) (c : Nat) (x y : Int) : Nat → Int := wantSet f (cvrQ f c x y) 100
theorem cvS_has (f : Fd) (p : Nat) (x y : Int) {c : Nat} (hc : c < 100) : hasC (cvS f p x y) (c : Int) = ((isCell f (c : Int) && f.K c == 0) && decide (y ≤ x / (1 + sq (p : Int) (c : Int)))) := by
  unfold cvS
  rw [hasC_want f _ hc, decide_eq_true hc, Bool.true_and]
  unfold cvQ
  rw [Bool.and_assoc]
theorem l03Numbers_any (x y : Int) (w : World) : Calls Tryd.prog 55 #[.int .i64 x, .int .i64 y] w fun e w' => e = .returned (.bool (inB x 1 1000 && inB y 1 1000)) ∧ w = w' := by
  have ok1 : True := trivial
  have ok2 : True := trivial
  cases hx : inB x 1 1000 with
  | false =>
    rw [Bool.false_and]
    go_enter Tryd.func55, Tryd.ntmps55
    go_wp2_with (go_at_call 37; refine (l03Power_any _ _).mono ?_; rintro e w1 ⟨rfl, rfl⟩; rw [hx])
    go_ret
    exact ⟨rfl, rfl⟩
  | true =>
    rw [Bool.true_and]
    have HX := Lib.hid hx
    obtain ⟨q, hq⟩ : ∃ q, inB y 1 1000 = q := ⟨_, rfl⟩
    rw [hq]
    clear hx
    go_enter Tryd.func55, Tryd.ntmps55
    go_wp2_with (first
      | (clear ok1; go_at_call 37; refine (l03Power_any x _).mono ?_; rintro e w1 ⟨rfl, rfl⟩; rw [HX.out])
      | (clear ok2; go_at_call 37; refine (l03Power_any y _).mono ?_; rintro e w1 ⟨rfl, rfl⟩; rw [hq]))
    go_ret
    exact ⟨rfl, rfl⟩
set_option maxRecDepth 100000 in
set_option maxHeartbeats 4000000 in
theorem l03Covers_any (f : Fd) (hf : f.Wf) (p : Nat) (hp : p < 100) (c : Nat) (hc : c < 100) (x y : Int) (hx : 1 ≤ x ∧ x ≤ 1000) (hy : 1 ≤ y ∧ y ≤ 1000) (b : Nat) (w : World) (B : Blk w b (fcells f) 34) :
    Calls Tryd.prog 56 #[.pointer (some ⟨b, 0, none⟩), .int .i64 (p : Int), .int .i64 (c : Int), .int .i64 x, .int .i64 y] w fun e w' => e = .returned (.bool (isCell f (p : Int) && cvrQ f c x y p)) ∧ w = w' := by
  unfold cvrQ
  rw [cvS_has f p x y hc]
  have hs0 := sq_in (a := (p : Int)) (b := (c : Int)) ⟨by omega, by omega⟩ ⟨by omega, by omega⟩
  have hsq := Lib.hid (fun w => sqS (p : Int) (c : Int) ⟨by omega, by omega⟩ ⟨by omega, by omega⟩ w)
  obtain ⟨s, hs⟩ : ∃ s, sq (p : Int) (c : Int) = s := ⟨_, rfl⟩
  rw [hs] at hs0 ⊢
  have HSQ := Lib.hid hs
  obtain ⟨hs1, hs2⟩ := hs0
  obtain ⟨hx1, hx2⟩ := hx
  obtain ⟨hy1, hy2⟩ := hy
  have hd1 : 0 ≤ x / (1 + s) := Int.ediv_nonneg (by omega) (by omega)
  have hd2 : x / (1 + s) ≤ x := Int.ediv_le_self _ (by omega)
  have hw1 : IntKind.i64.wrap (1 + s) = 1 + s := IntWalk.i64_in _ (by omega)
  have hw2 : IntKind.i64.wrap (x.tdiv (1 + s)) = x / (1 + s) := by rw [Int.tdiv_eq_ediv_of_nonneg (by omega)]; exact IntWalk.i64_in _ (by omega)
  have hne : ¬ (1 + s = 0) := by omega
  have hpK := hf.K p hp
  have cK := B.cell (fcells_K f p hp)
  have hp1 : (p : Int) < 100 := by omega
  have HB := Lib.hid B
  clear B hs
  cases hcp : isCell f (p : Int) with
  | false =>
    rw [Bool.false_and]
    clear hd1 hd2
    go_enter Tryd.func56, Tryd.ntmps56
    go_wp2_with (go_at_call 64; refine (l01Is_any f _ b _ hf.W hf.H HB.out).mono ?_; rintro e w1 ⟨rfl, rfl⟩; rw [hcp])
    go_ret
    exact ⟨rfl, rfl⟩
  | true =>
  rw [Bool.true_and]
  have HCP := Lib.hid hcp
  by_cases hK : f.K p = 3
  · rw [show (f.K p != 3) = false by simp [hK], Bool.false_and]
    clear hd1 hd2 hcp
    go_enter Tryd.func56, Tryd.ntmps56
    go_wp2_with (go_at_call 64; refine (l01Is_any f _ b _ hf.W hf.H HB.out).mono ?_; rintro e w1 ⟨rfl, rfl⟩; rw [HCP.out])
    go_ret
    exact ⟨rfl, rfl⟩
  · rw [show (f.K p != 3) = true by simpa using hK, Bool.true_and]
    obtain ⟨q, hq⟩ : ∃ q, (isCell f (c : Int) && f.K c == 0) = q := ⟨_, rfl⟩
    have HQ := Lib.hid hq
    rw [hq]
    clear hq hcp
    cases q with
    | false =>
      rw [Bool.false_and]
      clear hd1 hd2
      go_enter Tryd.func56, Tryd.ntmps56
      go_wp2_with (first
        | (go_at_call 64; refine (l01Is_any f _ b _ hf.W hf.H HB.out).mono ?_; rintro e w1 ⟨rfl, rfl⟩; rw [HCP.out])
        | (go_at_call 73; refine (l03Soil_any f hf c hc b _ HB.out).mono ?_; rintro e w' ⟨rfl, rfl⟩; rw [HQ.out]))
      go_ret
      exact ⟨rfl, rfl⟩
    | true =>
      rw [Bool.true_and]
      obtain ⟨v, hv⟩ : ∃ v, x / (1 + s) = v := ⟨_, rfl⟩
      rw [hv] at hd1 hd2 hw2 ⊢
      clear hv
      go_enter Tryd.func56, Tryd.ntmps56
      go_wp2_with (first
        | (go_at_call 64; refine (l01Is_any f _ b _ hf.W hf.H HB.out).mono ?_; rintro e w1 ⟨rfl, rfl⟩; rw [HCP.out])
        | (go_at_call 73; refine (l03Soil_any f hf c hc b _ HB.out).mono ?_; rintro e w' ⟨rfl, rfl⟩; rw [HQ.out])
        | (go_at_call 90; refine (hsq.out _).mono ?_; rintro e w' ⟨rfl, rfl⟩; rw [HSQ.out]))
      go_ret
      exact ⟨rfl, rfl⟩
/-- The code of a field, a cell, a power and a least fear. -/
def cvrCode (f : Fd) (c x y : Int) : Int := asked f c (inB x 1 1000 && inB y 1 1000)
def cvrVal (f : Fd) (c x y : Int) : Nat → Int := if cvrCode f c x y = 0 then cvrS f c.toNat x y else fun _ => 0
theorem asked_cases (f : Fd) (c : Int) (q : Bool) : (asked f c q = 0 ∧ okF f = true ∧ isCell f c = true ∧ q = true) ∨ (asked f c q = 1 ∧ okF f = false) ∨ (asked f c q = 2 ∧ okF f = true ∧ (isCell f c = false ∨ q = false)) := by
  unfold asked
  cases okF f <;> cases isCell f c <;> cases q <;> simp
set_option maxRecDepth 100000 in
set_option maxHeartbeats 4000000 in
theorem specCoverersOf (f : Fd) (hf : f.Wf) (c x y : Int) (w : World) :
    Calls Tryd.prog 22 #[.agg (fcells f), .int .i64 c, .int .i64 x, .int .i64 y] w fun e w' => e = .returned (.tuple #[.agg (acells .u64 2 (cvrVal f c x y)), .int .i64 (cvrCode f c x y)]) ∧ Below w.heap.size w w' := by
  have bad : ∀ k : Int, k ≠ 0 → cvrCode f c x y = k → Calls Tryd.prog 22 #[.agg (fcells f), .int .i64 c, .int .i64 x, .int .i64 y] w fun e w' => e = .returned (.tuple #[.agg (acells .u64 2 (cvrVal f c x y)), .int .i64 (cvrCode f c x y)]) ∧ Below w.heap.size w w' := by
    intro k hk0 hk
    have hV : cvrVal f c x y = fun _ => 0 := by unfold cvrVal; rw [hk, if_neg hk0]
    rw [hV, hk]
    obtain ⟨q, hq⟩ : ∃ q, (inB x 1 1000 && inB y 1 1000) = q := ⟨_, rfl⟩
    have HQ := Lib.hid hq
    have HC : Hid (asked f c q = k) := Lib.hid (by rw [← hq]; exact hk)
    have hkb : (k != 0) = true := by simpa using hk0
    clear hk hk0 hV hq
    go_enter Tryd.func22, Tryd.ntmps22
    go_upto_region 1 with (fail)
    rw [zero2]
    obtain ⟨W, hW, M⟩ := open2 w (fcells f) 34 (acells .u64 2 (fun _ => 0)) 38
    rw [hW]; clear hW
    go_wp2_with (first
      | (go_at_call 55; refine (l03Numbers_any x y _).mono ?_; rintro e w1 ⟨rfl, rfl⟩; rw [HQ.out])
      | (go_at_call 54; refine (l01Asked_any f hf c q w.heap.size _ (M.at 0 rfl)).mono ?_; rintro e w1 ⟨rfl, rfl⟩; rw [HC.out])
      | (refine wpList_store_row rfl 38 _ _ rfl (w.heap.size + 1) (acells .u64 2 (fun _ => 0)) rfl rfl 38 _ (M.at 1 rfl) (by rw [acells_size]; exact sizeC) (by simp only [acells_size]) (acells_one _ _ _) ?_))
    have M3 := M.row 1 rfl (acells .u64 2 (fun _ => 0))
    exact bodyPost_ret (results_row_tmp rfl _ _ (w.heap.size + 1) 38 _ _ _ rfl (M3.at 1 rfl) Tryd.underlying38 rfl (by rw [acells_size]; exact sizeC)) rfl ⟨rfl, M3.below⟩
  rcases asked_cases f c (inB x 1 1000 && inB y 1 1000) with ⟨h0, hok, hcl, hq⟩ | ⟨h0, _⟩ | ⟨h0, _⟩
  · have hcode : cvrCode f c x y = 0 := h0
    have hV : cvrVal f c x y = cvrS f c.toNat x y := by unfold cvrVal; rw [hcode, if_pos rfl]
    rw [hV, hcode]
    obtain ⟨c9, hc9, rfl⟩ := cell_nat hcl
    rw [Int.toNat_natCast]
    have hxy : inB x 1 1000 = true ∧ inB y 1 1000 = true := by simpa using hq
    have hx := Lib.hid (inB_iff.1 hxy.1)
    have hy := Lib.hid (inB_iff.1 hxy.2)
    have HQ := Lib.hid hq
    have HC : Hid (asked f (c9 : Int) true = 0) := Lib.hid (by rw [← hq]; exact h0)
    clear bad hcode hV h0 hok hcl hq hxy
    unfold cvrS
    obtain ⟨Q, hQ⟩ : ∃ Q, cvrQ f c9 x y = Q := ⟨_, rfl⟩
    have HCV := Lib.hid (fun (p : Nat) (hp : p < 100) (b : Nat) (w : World) (B : Blk w b (fcells f) 34) => l03Covers_any f hf p hp c9 hc9 x y hx.out hy.out b w B)
    rw [hQ] at HCV ⊢
    clear hQ
    go_enter Tryd.func22, Tryd.ntmps22
    go_upto_region 1 with (fail)
    rw [zero2]
    obtain ⟨W, hW, M⟩ := open2 w (fcells f) 34 (acells .u64 2 (fun _ => 0)) 38
    rw [hW]; clear hW
    go_upto_region 5 with (first
      | (go_at_call 55; refine (l03Numbers_any x y _).mono ?_; rintro e w1 ⟨rfl, rfl⟩; rw [HQ.out])
      | (go_at_call 54; refine (l01Asked_any f hf (c9 : Int) true w.heap.size _ (M.at 0 rfl)).mono ?_; rintro e w1 ⟨rfl, rfl⟩; rw [HC.out]))
    obtain ⟨ob, hob⟩ : ∃ ob, ob = W.heap.size := ⟨_, rfl⟩
    have M0 : Mem w (W.alloc (.cells (acells .u64 2 (fun _ => 0)) 38)) [⟨w.heap.size, fcells f, 34⟩, ⟨w.heap.size + 1, acells .u64 2 (fun _ => 0), 38⟩, ⟨ob, acells .u64 2 (wantSet f Q 0), 38⟩] := by rw [hob]; exact M.alloc _ _
    (try rw [zero2])
    generalize W.alloc _ = W2 at M0 ⊢
    rw [← hob]
    clear hob M
    go_wp2_with fail
    go_loopw [12] (fun i wr => ∃ k : Nat, k ≤ 100 ∧ i = .int .i64 k ∧ Hid (Mem w wr [⟨w.heap.size, fcells f, 34⟩, ⟨w.heap.size + 1, acells .u64 2 (fun _ => 0), 38⟩, ⟨ob, acells .u64 2 (wantSet f Q k), 38⟩])) (fun i _ => 100 - (intOf i).toNat)
    case atStart => exact ⟨0, by omega, rfl, Lib.hid M0⟩
    case round =>
      clear M0
      obtain ⟨k, hk', rfl, hM⟩ := hrel
      by_cases hlt : k < 100
      · cases hq : (isCell f (k : Int) && Q k) with
        | false =>
          have hno : Hid (wantSet f Q (k + 1) = wantSet f Q k) := Lib.hid (wantSet_no hq)
          go_wp2_with (go_at_call 56; refine (HCV.out k hlt w.heap.size _ (hM.out.at 0 rfl)).mono ?_; rintro e w' ⟨rfl, rfl⟩; rw [hq])
          go_roundw
          case rel => exact ⟨k + 1, by omega, by go_num, by rw [hno.out]; exact hM⟩
          case measure => simp [intOf]; omega
        | true =>
          have hq2 : isCell f (k : Int) = true ∧ Q k = true := by simpa using hq
          have hyes : Hid (wantSet f Q (k + 1) = putC (wantSet f Q k) k) := Lib.hid (wantSet_yes hq2.1 hq2.2)
          clear hq2
          go_wp2_with (first
            | (go_at_call 56; refine (HCV.out k hlt w.heap.size _ (hM.out.at 0 rfl)).mono ?_; rintro e w' ⟨rfl, rfl⟩; rw [hq])
            | (go_at_call 57; refine (l01Put_any (wantSet f Q k) k hlt _ _ (hM.out.at 2 rfl)).mono ?_; rintro e w3 ⟨⟨_, rfl⟩, i, vv, hw2, hset⟩; have M4 := Lib.hid (hM.out.set 2 i vv rfl _ hset).drew; rw [hw2] at M4))
          go_roundw
          case rel => exact ⟨k + 1, by omega, by go_num, by rw [hyes.out]; exact M4⟩
          case measure => simp [intOf]; omega
      · obtain rfl : k = 100 := by omega
        obtain ⟨G, hG⟩ : ∃ G, wantSet f Q 100 = G := ⟨_, rfl⟩
        have HG := Lib.hid hG
        rw [hG] at hM
        clear hG
        go_wp2_with (first
          | (refine wpList_load_part rfl 38 _ rfl ob 0 rfl (acells .u64 2 G) _ (hM.out.at 2 rfl).whole Tryd.underlying38 rfl (by rw [acells_size]; exact sizeC) ?_)
          | (refine wpList_store_row rfl 38 _ _ rfl (w.heap.size + 1) (acells .u64 2 G) rfl rfl 38 _ (hM.out.at 1 rfl) (by rw [acells_size]; exact sizeC) (by simp only [acells_size]) (acells_one _ _ _) ?_))
        have M2 := hM.out.row 1 rfl (acells .u64 2 G)
        exact bodyPost_ret (results_row_tmp rfl _ _ (w.heap.size + 1) 38 _ _ _ rfl (M2.at 1 rfl) Tryd.underlying38 rfl (by rw [acells_size]; exact sizeC)) rfl ⟨by rw [HG.out]; rfl, M2.below⟩
  · exact bad 1 (by decide) h0
  · exact bad 2 (by decide) h0
end Go.Proofs.YtmdfmbkchiafhaaDoor
