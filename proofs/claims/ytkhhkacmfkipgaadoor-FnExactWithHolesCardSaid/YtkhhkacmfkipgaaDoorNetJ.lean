/-
  CoveredBy, CellsUnder, EdgeOf: the model's, the program's.
  CellsUnder, EdgeOf of one net: the model's, the program's.
-/
import Derived.Test.YtkhhkacmfkipgaaDoorNetH
import Derived.Test.YtkhhkacmfkipgaaDoorRow
namespace Go.Proofs.YtkhhkacmfkipgaaDoor
section
open Go Go.RowKit

/-- What is answered where the code is not OK. -/
def ans (code : Int) (g : Nat → Int) : Nat → Int := if code = 0 then g else fun _ => 0
theorem ans_0 (g : Nat → Int) : ans 0 g = g := rfl
theorem ans_1 (g : Nat → Int) : ans 1 g = fun _ => 0 := rfl
theorem ans_3 (g : Nat → Int) : ans 3 g = fun _ => 0 := rfl
theorem code_three (f : Fd) (n : Nat) (F : Nat → Nat → Int) : netsCode f n F = 0 ∨ netsCode f n F = 1 ∨ netsCode f n F = 3 := by
  unfold netsCode
  split
  · split
    · exact .inr (.inr rfl)
    · exact .inl rfl
  · exact .inr (.inl rfl)
theorem netsCode_one (f : Fd) (a : Nat → Int) : netsCode f 1 (fun _ => a) = if okF f && netOk f a then 0 else 1 := by
  unfold netsCode netsOk
  have e : allTo 1 (fun _ => netOk f a) = netOk f a := by simp [allTo]
  rw [e, if_neg (show ¬ 20 < 1 by omega)]
theorem cov_one (a : Nat → Int) : acells .u64 2 (cov (fun _ => a) 1) = acells .u64 2 (undA a) := acells_congr (fun i _ => by
  obtain ⟨z, ez, hz⟩ := nat_of (undA_N100 a).1 i
  show bits .or .u64 0 (undA a i) = undA a i
  rw [ez]
  have h := bits_or_u64_nat 0 z (by omega) hz
  rw [Nat.zero_or] at h
  exact h)
theorem row_inS {w : World} {b : Nat} {a : Nat → Int} {t : TypeId} (B : Blk w b #[.int .i8 (a 0), .int .i8 (a 1), .int .i8 (a 2), .int .i8 (a 3)] t) : InS w b 0 1 ksNet (fun _ => a) := fun i hi => by
  obtain rfl : i = 0 := by omega
  exact B.whole

set_option maxRecDepth 100000 in
set_option maxHeartbeats 2000000 in
theorem specCoveredBy (f : Fd) (hf : f.Wf) (n : Nat) (hn : n ≤ 2 ^ 40) (F : Nat → Nat → Int) (hF : ∀ i, i < n → WfN (F i)) (b o c : Nat) (w : World) (I : InS w b o n ksNet F) :
    Calls Tryd.prog 18 #[.agg (fcells f), .slice (some ⟨b, o, none⟩) n c] w fun e w' => e = .returned (.tuple #[.agg (acells .u64 2 (ans (netsCode f n F) (cov F n))), .int .i64 (netsCode f n F)]) ∧ Below w.heap.size w w' := by
  have HI := Lib.hid I
  clear I
  have bad : ∀ code : Int, netsCode f n F = code → code ≠ 0 → Calls Tryd.prog 18 #[.agg (fcells f), .slice (some ⟨b, o, none⟩) n c] w fun e w' => e = .returned (.tuple #[.agg (acells .u64 2 (fun _ => 0)), .int .i64 code]) ∧ Below w.heap.size w w' := by
    intro code hcode hne
    have hc := Lib.hid hcode
    have hne2 : (code != 0) = true := by simpa using hne
    clear hcode
    go_enter Tryd.func18, Tryd.ntmps18
    go_upto_region 1 with (fail)
    rw [zero2]
    obtain ⟨W, hW, M⟩ := open2 w (fcells f) 32 (acells .u64 2 (fun _ => 0)) 39
    rw [hW]; clear hW
    go_wp2_with (first
      | (go_at_call 40; refine (l04Nets_some f hf n hn F hF b o c w.heap.size _ (M.at 0 rfl) (HI.out.later M.below)).mono ?_; rintro e W2 ⟨rfl, hb⟩; rw [hc.out]; have M2 := M.call hb)
      | (refine wpList_store_row rfl 39 _ _ rfl (w.heap.size + 1) (acells .u64 2 (fun _ => 0)) rfl rfl 39 _ (M2.at 1 rfl) (by rw [acells_size]; exact sizeC) (by simp only [acells_size]) (acells_one _ _ _) ?_))
    have M3 := M2.row 1 rfl (acells .u64 2 (fun _ => 0))
    exact bodyPost_ret (results_row_tmp rfl _ _ (w.heap.size + 1) 39 _ _ _ rfl (M3.at 1 rfl) Tryd.underlying39 rfl (by rw [acells_size]; exact sizeC)) rfl ⟨rfl, M3.below⟩
  rcases code_three f n F with hc | hc | hc
  · obtain ⟨hok, hns, _⟩ := code_0 hc
    have hfits := code_fits hok hns
    rw [hc, ans_0]
    have hc := Lib.hid hc
    clear bad
    go_enter Tryd.func18, Tryd.ntmps18
    go_upto_region 1 with (fail)
    rw [zero2]
    obtain ⟨W, hW, M⟩ := open2 w (fcells f) 32 (acells .u64 2 (fun _ => 0)) 39
    rw [hW]; clear hW
    go_wp2_with (first
      | (go_at_call 40; refine (l04Nets_some f hf n hn F hF b o c w.heap.size _ (M.at 0 rfl) (HI.out.later M.below)).mono ?_; rintro e W2 ⟨rfl, hb⟩; rw [hc.out]; have M2 := M.call hb)
      | (go_at_call 41; refine (l04Covered_some n hn F hfits b o c _ (HI.out.later M2.below)).mono ?_; rintro e W3 ⟨rfl, hb3⟩; have M3 := M2.call hb3)
      | (refine wpList_store_row rfl 39 _ _ rfl (w.heap.size + 1) (acells .u64 2 (cov F n)) rfl rfl 39 _ (M3.at 1 rfl) (by rw [acells_size]; exact sizeC) (by simp only [acells_size]) (acells_one _ _ _) ?_))
    have M4 := M3.row 1 rfl (acells .u64 2 (cov F n))
    exact bodyPost_ret (results_row_tmp rfl _ _ (w.heap.size + 1) 39 _ _ _ rfl (M4.at 1 rfl) Tryd.underlying39 rfl (by rw [acells_size]; exact sizeC)) rfl ⟨rfl, M4.below⟩
  · rw [hc, ans_1]; exact bad 1 hc (by omega)
  · rw [hc, ans_3]; exact bad 3 hc (by omega)
set_option maxRecDepth 100000 in
set_option maxHeartbeats 4000000 in
theorem implCoveredBy (f : Fd) (hf : f.Wf) (n : Nat) (hn : n ≤ 2 ^ 40) (F : Nat → Nat → Int) (hF : ∀ i, i < n → WfN (F i)) (b o c : Nat) (A : Nat → Addr) (w : World) (I : InS w b o n ksNet F) (S0 : Sents w A) :
    Calls Tryd.prog 20 #[.agg (fcells f), .slice (some ⟨b, o, none⟩) n c] w fun e w' => e = .returned (.tuple #[.agg (acells .u64 2 (ans (netsCode f n F) (cov F n))), .int .i64 (netsCode f n F)]) ∧ Below w.heap.size w w' := by
  have HI := Lib.hid I
  have S : Hid (Sents w A) := Lib.hid S0
  clear I S0
  have hif := isIfaceErr
  have bad : ∀ k : Nat, 1 ≤ k → k ≤ 8 → netErr A (netsCode f n F) = errVal (A k) → Calls Tryd.prog 20 #[.agg (fcells f), .slice (some ⟨b, o, none⟩) n c] w fun e w' => e = .returned (.tuple #[.agg (acells .u64 2 (fun _ => 0)), .int .i64 k]) ∧ Below w.heap.size w w' := by
    intro k h1 h8 hcode
    have hc := Lib.hid hcode
    clear hcode
    go_enter Tryd.func20, Tryd.ntmps20
    go_upto_region 1 with (fail)
    rw [zero2]
    obtain ⟨W, hW, M⟩ := open2 w (fcells f) 32 (acells .u64 2 (fun _ => 0)) 39
    rw [hW]; clear hW
    go_wp2_with (first
      | (refine wpList_load_part rfl 32 _ rfl w.heap.size 0 rfl (fcells f) _ (M.at 0 rfl).whole Tryd.underlying32 rfl (by rw [fcells_size]; exact sizeFd) ?_)
      | (go_at_call 36; refine (checkNetting0 f hf n hn F hF b o c A _ (HI.out.later M.below) (S.out.later M.below)).mono ?_; rintro e W2 ⟨rfl, hb⟩; rw [hc.out]; have M2 := M.call hb)
      | (go_at_call 37; refine (codeOf_err A k h1 h8 _ (S.out.later M2.below)).mono ?_; rintro e W3 ⟨rfl, rfl⟩)
      | (refine wpList_store_row rfl 39 _ _ rfl (w.heap.size + 1) (acells .u64 2 (fun _ => 0)) rfl rfl 39 _ (M2.at 1 rfl) (by rw [acells_size]; exact sizeC) (by simp only [acells_size]) (acells_one _ _ _) ?_))
    have M3 := M2.row 1 rfl (acells .u64 2 (fun _ => 0))
    exact bodyPost_ret (results_row_tmp rfl _ _ (w.heap.size + 1) 39 _ _ _ rfl (M3.at 1 rfl) Tryd.underlying39 rfl (by rw [acells_size]; exact sizeC)) rfl ⟨rfl, M3.below⟩
  rcases code_three f n F with hc | hc | hc
  · obtain ⟨hok, hns, _⟩ := code_0 hc
    have hfits := code_fits hok hns
    have hc0 := Lib.hid (show netErr A (netsCode f n F) = .nilIface by rw [hc]; rfl)
    rw [hc, ans_0]
    clear bad hc
    go_enter Tryd.func20, Tryd.ntmps20
    go_upto_region 1 with (fail)
    rw [zero2]
    obtain ⟨W, hW, M⟩ := open2 w (fcells f) 32 (acells .u64 2 (fun _ => 0)) 39
    rw [hW]; clear hW
    go_upto_region 5 with (first
      | (refine wpList_load_part rfl 32 _ rfl w.heap.size 0 rfl (fcells f) _ (M.at 0 rfl).whole Tryd.underlying32 rfl (by rw [fcells_size]; exact sizeFd) ?_)
      | (go_at_call 36; refine (checkNetting0 f hf n hn F hF b o c A _ (HI.out.later M.below) (S.out.later M.below)).mono ?_; rintro e W2 ⟨rfl, hb⟩; rw [hc0.out]; have M2 := M.call hb; clear M)
      | (go_at_call 42; refine (layers_some n hn F hfits b o c _ (HI.out.later M2.below)).mono ?_; rintro e W3 ⟨rfl, hb3⟩; have M3 := M2.call hb3; have M4 := (M3.alloc #[.int .u64 0, .int .u64 0] 39).alloc #[.int .u64 0, .int .u64 0] 39; rw [World.size_alloc] at M4)
      | (refine wpList_store_row rfl 39 _ _ rfl W3.heap.size (acells .u64 2 (cov F n)) rfl rfl 39 _ (M4.at 2 rfl) (by rw [acells_size]; exact sizeC) (by rw [acells_size]; rfl) (acells_one _ _ _) ?_)
      | (refine wpList_store_row rfl 39 _ _ rfl (W3.heap.size + 1) (acells .u64 2 (twi F n)) rfl rfl 39 _ ((M4.row 2 rfl (acells .u64 2 (cov F n))).at 3 rfl) (by rw [acells_size]; exact sizeC) (by rw [acells_size]; rfl) (acells_one _ _ _) ?_))
    have M5 := (M4.row 2 rfl (acells .u64 2 (cov F n))).row 3 rfl (acells .u64 2 (twi F n))
    generalize World.setRow _ _ _ = W5 at M5 ⊢
    go_wp2_with (first
      | (refine wpList_load_part rfl 39 _ rfl W3.heap.size 0 rfl (acells .u64 2 (cov F n)) _ (M5.at 2 rfl).whole Tryd.underlying39 rfl (by rw [acells_size]; exact sizeC) ?_)
      | (refine wpList_store_row rfl 39 _ _ rfl (w.heap.size + 1) (acells .u64 2 (cov F n)) rfl rfl 39 _ (M5.at 1 rfl) (by rw [acells_size]; exact sizeC) (by simp only [acells_size]) (acells_one _ _ _) ?_))
    have M6 := M5.row 1 rfl (acells .u64 2 (cov F n))
    exact bodyPost_ret (results_row_tmp rfl _ _ (w.heap.size + 1) 39 _ _ _ rfl (M6.at 1 rfl) Tryd.underlying39 rfl (by rw [acells_size]; exact sizeC)) rfl ⟨rfl, M6.below⟩
  · rw [hc, ans_1]; exact bad 1 (by omega) (by omega) (by rw [hc]; rfl)
  · rw [hc, ans_3]; exact bad 3 (by omega) (by omega) (by rw [hc]; rfl)
end
section
open Go Go.RowKit

def netCode (f : Fd) (a : Nat → Int) : Int := if okF f && netOk f a then 0 else 1
theorem netCode_yes {f : Fd} {a : Nat → Int} (h : (okF f && netOk f a) = true) : netCode f a = 0 := by unfold netCode; rw [h]; rfl
theorem netCode_no {f : Fd} {a : Nat → Int} (h : (okF f && netOk f a) = false) : netCode f a = 1 := by unfold netCode; rw [h]; rfl
theorem netsCode_net (f : Fd) (a : Nat → Int) : netsCode f 1 (fun _ => a) = netCode f a := netsCode_one f a
theorem edge_i64 {a : Nat → Int} (ha : WfN a) : -512 ≤ 2 * (a 2 + a 3) ∧ 2 * (a 2 + a 3) ≤ 508 := by
  obtain ⟨_, _, h2, h3⟩ := ha
  omega
set_option maxRecDepth 100000 in
set_option maxHeartbeats 1000000 in
theorem specValidNet (f : Fd) (hf : f.Wf) (a : Nat → Int) (ha : WfN a) (w : World) : Calls Tryd.prog 32 #[.agg (fcells f), vNet a] w fun e w' => e = .returned (.bool (okF f && netOk f a)) ∧ Below w.heap.size w w' := by
  cases hok : okF f with
  | false =>
    go_enter Tryd.func32, Tryd.ntmps32
    go_upto_region 1 with (fail)
    obtain ⟨W, hW, M⟩ := open2 w (fcells f) 32 #[.int .i8 (a 0), .int .i8 (a 1), .int .i8 (a 2), .int .i8 (a 3)] 34
    rw [hW]; clear hW
    go_wp2_with (go_at_call 52; refine (l01Ok_any f hf w.heap.size _ (M.at 0 rfl)).mono ?_; rintro e w' ⟨rfl, rfl⟩; rw [hok]; go_wp2_with fail)
    go_ret
    exact ⟨rfl, M.below⟩
  | true =>
    go_enter Tryd.func32, Tryd.ntmps32
    go_upto_region 1 with (fail)
    obtain ⟨W, hW, M⟩ := open2 w (fcells f) 32 #[.int .i8 (a 0), .int .i8 (a 1), .int .i8 (a 2), .int .i8 (a 3)] 34
    rw [hW]; clear hW
    go_wp2_with (go_at_call 52; refine (l01Ok_any f hf w.heap.size _ (M.at 0 rfl)).mono ?_; rintro e w' ⟨rfl, rfl⟩; rw [hok]; go_wp2_with (first
      | (go_at_call 53; refine (l04Net_any f hf hok a ha w.heap.size _ (M.at 0 rfl)).mono ?_; rintro e W2 ⟨rfl, hb⟩; have M2 := M.call hb; go_wp2_with fail)
      | (refine wpList_load_wanted rfl 34 _ rfl (w.heap.size + 1) 0 rfl #[.int .i8 (a 0), .int .i8 (a 1), .int .i8 (a 2), .int .i8 (a 3)] _ (M.at 1 rfl).whole Tryd.underlying34 rfl (by kernel_rfl) ?_)))
    go_ret
    exact ⟨rfl, M2.below⟩
theorem specEdge (a : Nat → Int) (ha : WfN a) (w : World) : Calls Tryd.prog 33 #[vNet a] w fun e w' => e = .returned (.int .i64 (2 * (a 2 + a 3))) ∧ Below w.heap.size w w' := by
  obtain ⟨_, _, ⟨u1, u2⟩, ⟨v1, v2⟩⟩ := ha
  go_enter Tryd.func33, Tryd.ntmps33
  go_upto_region 1 with (fail)
  obtain ⟨W, hW, M⟩ := open1 w #[.int .i8 (a 0), .int .i8 (a 1), .int .i8 (a 2), .int .i8 (a 3)] 34
  rw [hW]; clear hW
  have c2 := (M.at 0 rfl).cell (i := 2) rfl
  have c3 := (M.at 0 rfl).cell (i := 3) rfl
  go_wp2_with fail
  go_ret
  exact ⟨rfl, M.below⟩
theorem implEdge (a : Nat → Int) (ha : WfN a) (w : World) : Calls Tryd.prog 38 #[vNet a] w fun e w' => e = .returned (.int .i64 (2 * (a 2 + a 3))) ∧ Below w.heap.size w w' := by
  obtain ⟨_, _, ⟨u1, u2⟩, ⟨v1, v2⟩⟩ := ha
  go_enter Tryd.func38, Tryd.ntmps38
  go_upto_region 1 with (fail)
  obtain ⟨W, hW, M⟩ := open1 w #[.int .i8 (a 0), .int .i8 (a 1), .int .i8 (a 2), .int .i8 (a 3)] 34
  rw [hW]; clear hW
  have c2 := (M.at 0 rfl).cell (i := 2) rfl
  have c3 := (M.at 0 rfl).cell (i := 3) rfl
  go_wp2_with fail
  go_ret
  exact ⟨rfl, M.below⟩
def edgeOf (f : Fd) (a : Nat → Int) : Int := if okF f && netOk f a then 2 * (a 2 + a 3) else 0
theorem edge_yes {f : Fd} {a : Nat → Int} (h : (okF f && netOk f a) = true) : edgeOf f a = 2 * (a 2 + a 3) := by unfold edgeOf; rw [h]; rfl
theorem edge_no {f : Fd} {a : Nat → Int} (h : (okF f && netOk f a) = false) : edgeOf f a = 0 := by unfold edgeOf; rw [h]; rfl
set_option maxRecDepth 100000 in
set_option maxHeartbeats 1000000 in
theorem specEdgeOf (f : Fd) (hf : f.Wf) (a : Nat → Int) (ha : WfN a) (w : World) : Calls Tryd.prog 10 #[.agg (fcells f), vNet a] w fun e w' => e = .returned (.tuple #[.int .i64 (edgeOf f a), .int .i64 (netCode f a)]) ∧ Below w.heap.size w w' := by
  cases hv : (okF f && netOk f a) with
  | false =>
    rw [edge_no hv, netCode_no hv]
    go_enter Tryd.func10, Tryd.ntmps10
    go_upto_region 1 with (fail)
    obtain ⟨W, hW, M⟩ := open2 w (fcells f) 32 #[.int .i8 (a 0), .int .i8 (a 1), .int .i8 (a 2), .int .i8 (a 3)] 34
    rw [hW]; clear hW
    go_wp2_with (first
      | (go_at_call 32; refine (specValidNet f hf a ha _).mono ?_; rintro e W2 ⟨rfl, hb⟩; have M2 := M.call hb; rw [hv]; go_wp2_with fail)
      | (refine wpList_load_part rfl 32 _ rfl w.heap.size 0 rfl (fcells f) _ (M.at 0 rfl).whole Tryd.underlying32 rfl (by rw [fcells_size]; exact sizeFd) ?_)
      | (refine wpList_load_part rfl 34 _ rfl (w.heap.size + 1) 0 rfl #[.int .i8 (a 0), .int .i8 (a 1), .int .i8 (a 2), .int .i8 (a 3)] _ (M.at 1 rfl).whole Tryd.underlying34 rfl (by kernel_rfl) ?_))
    go_ret2
    exact ⟨rfl, M2.below⟩
  | true =>
    rw [edge_yes hv, netCode_yes hv]
    go_enter Tryd.func10, Tryd.ntmps10
    go_upto_region 1 with (fail)
    obtain ⟨W, hW, M⟩ := open2 w (fcells f) 32 #[.int .i8 (a 0), .int .i8 (a 1), .int .i8 (a 2), .int .i8 (a 3)] 34
    rw [hW]; clear hW
    go_wp2_with (first
      | (go_at_call 32; refine (specValidNet f hf a ha _).mono ?_; rintro e W2 ⟨rfl, hb⟩; have M2 := M.call hb; rw [hv]; clear M; go_wp2_with (first
        | (go_at_call 33; refine (specEdge a ha _).mono ?_; rintro e W3 ⟨rfl, hb3⟩; have M3 := M2.call hb3)
        | (refine wpList_load_part rfl 34 _ rfl (w.heap.size + 1) 0 rfl #[.int .i8 (a 0), .int .i8 (a 1), .int .i8 (a 2), .int .i8 (a 3)] _ (M2.at 1 rfl).whole Tryd.underlying34 rfl (by kernel_rfl) ?_)))
      | (refine wpList_load_part rfl 32 _ rfl w.heap.size 0 rfl (fcells f) _ (M.at 0 rfl).whole Tryd.underlying32 rfl (by rw [fcells_size]; exact sizeFd) ?_)
      | (refine wpList_load_part rfl 34 _ rfl (w.heap.size + 1) 0 rfl #[.int .i8 (a 0), .int .i8 (a 1), .int .i8 (a 2), .int .i8 (a 3)] _ (M.at 1 rfl).whole Tryd.underlying34 rfl (by kernel_rfl) ?_))
    go_ret2
    exact ⟨rfl, M3.below⟩
set_option maxRecDepth 100000 in
set_option maxHeartbeats 2000000 in
theorem implEdgeOf (f : Fd) (hf : f.Wf) (a : Nat → Int) (ha : WfN a) (A : Nat → Addr) (w : World) (S0 : Sents w A) : Calls Tryd.prog 13 #[.agg (fcells f), vNet a] w fun e w' => e = .returned (.tuple #[.int .i64 (edgeOf f a), .int .i64 (netCode f a)]) ∧ Below w.heap.size w w' := by
  have S : Hid (Sents w A) := Lib.hid S0
  clear S0
  have hif := isIfaceErr
  have hF : Hid (∀ i, i < 1 → WfN ((fun _ : Nat => a) i)) := Lib.hid (fun _ _ => ha)
  cases hv : (okF f && netOk f a) with
  | false =>
    have hc : Hid (netErr A (netsCode f 1 (fun _ => a)) = errVal (A 1)) := Lib.hid (by rw [netsCode_net, netCode_no hv]; rfl)
    rw [edge_no hv, netCode_no hv]
    go_enter Tryd.func13, Tryd.ntmps13
    go_upto_region 1 with (fail)
    obtain ⟨W, hW, M⟩ := open2 w (fcells f) 32 #[.int .i8 (a 0), .int .i8 (a 1), .int .i8 (a 2), .int .i8 (a 3)] 34
    rw [hW]; clear hW
    go_wp2_with (first
      | (go_at_call 36; refine (checkNetting0 f hf 1 (by omega) (fun _ => a) hF.out W.heap.size 0 1 A _ (row_inS (Blk.new _ _ _)) (S.out.later (M.alloc _ _).below)).mono ?_; rintro e W2 ⟨rfl, hb⟩; rw [hc.out]; have M2 := (M.alloc _ _).call hb)
      | (go_at_call 37; refine (codeOf_err A 1 (by omega) (by omega) _ (S.out.later M2.below)).mono ?_; rintro e W3 ⟨rfl, rfl⟩)
      | (refine wpList_buildRow rfl 46 34 _ rfl #[.int .i8 (a 0), .int .i8 (a 1), .int .i8 (a 2), .int .i8 (a 3)] rfl Tryd.underlying46 (by kernel_rfl) (by kernel_rfl) (by decide) (by decide) ?_)
      | (refine wpList_load_part rfl 32 _ rfl w.heap.size 0 rfl (fcells f) _ (M.at 0 rfl).whole Tryd.underlying32 rfl (by rw [fcells_size]; exact sizeFd) ?_)
      | (refine wpList_load_part rfl 34 _ rfl (w.heap.size + 1) 0 rfl #[.int .i8 (a 0), .int .i8 (a 1), .int .i8 (a 2), .int .i8 (a 3)] _ (M.at 1 rfl).whole Tryd.underlying34 rfl (by kernel_rfl) ?_))
    go_ret2
    exact ⟨rfl, M2.below⟩
  | true =>
    have hc : Hid (netErr A (netsCode f 1 (fun _ => a)) = .nilIface) := Lib.hid (by rw [netsCode_net, netCode_yes hv]; rfl)
    rw [edge_yes hv, netCode_yes hv]
    go_enter Tryd.func13, Tryd.ntmps13
    go_upto_region 1 with (fail)
    obtain ⟨W, hW, M⟩ := open2 w (fcells f) 32 #[.int .i8 (a 0), .int .i8 (a 1), .int .i8 (a 2), .int .i8 (a 3)] 34
    rw [hW]; clear hW
    go_wp2_with (first
      | (go_at_call 36; refine (checkNetting0 f hf 1 (by omega) (fun _ => a) hF.out W.heap.size 0 1 A _ (row_inS (Blk.new _ _ _)) (S.out.later (M.alloc _ _).below)).mono ?_; rintro e W2 ⟨rfl, hb⟩; rw [hc.out]; have M2 := (M.alloc _ _).call hb; go_wp2_with (first
        | (go_at_call 38; refine (implEdge a ha _).mono ?_; rintro e W3 ⟨rfl, hb3⟩; have M3 := M2.call hb3)
        | (refine wpList_load_part rfl 34 _ rfl (w.heap.size + 1) 0 rfl #[.int .i8 (a 0), .int .i8 (a 1), .int .i8 (a 2), .int .i8 (a 3)] _ (M2.at 1 rfl).whole Tryd.underlying34 rfl (by kernel_rfl) ?_)))
      | (refine wpList_buildRow rfl 46 34 _ rfl #[.int .i8 (a 0), .int .i8 (a 1), .int .i8 (a 2), .int .i8 (a 3)] rfl Tryd.underlying46 (by kernel_rfl) (by kernel_rfl) (by decide) (by decide) ?_)
      | (refine wpList_load_part rfl 32 _ rfl w.heap.size 0 rfl (fcells f) _ (M.at 0 rfl).whole Tryd.underlying32 rfl (by rw [fcells_size]; exact sizeFd) ?_)
      | (refine wpList_load_part rfl 34 _ rfl (w.heap.size + 1) 0 rfl #[.int .i8 (a 0), .int .i8 (a 1), .int .i8 (a 2), .int .i8 (a 3)] _ (M.at 1 rfl).whole Tryd.underlying34 rfl (by kernel_rfl) ?_))
    go_ret2
    exact ⟨rfl, M3.below⟩
set_option maxRecDepth 100000 in
set_option maxHeartbeats 2000000 in
theorem specCellsUnder (f : Fd) (hf : f.Wf) (a : Nat → Int) (ha : WfN a) (w : World) : Calls Tryd.prog 14 #[.agg (fcells f), vNet a] w fun e w' => e = .returned (.tuple #[.agg (acells .u64 2 (ans (netCode f a) (undA a))), .int .i64 (netCode f a)]) ∧ Below w.heap.size w w' := by
  cases hv : (okF f && netOk f a) with
  | false =>
    rw [netCode_no hv, ans_1]
    go_enter Tryd.func14, Tryd.ntmps14
    go_upto_region 1 with (fail)
    rw [zero2]
    obtain ⟨W, hW, M⟩ := open3 w (fcells f) 32 #[.int .i8 (a 0), .int .i8 (a 1), .int .i8 (a 2), .int .i8 (a 3)] 34 (acells .u64 2 (fun _ => 0)) 39
    rw [hW]; clear hW
    go_wp2_with (first
      | (go_at_call 32; refine (specValidNet f hf a ha _).mono ?_; rintro e W2 ⟨rfl, hb⟩; have M2 := M.call hb; rw [hv]; clear M; go_wp2_with (refine wpList_store_row rfl 39 _ _ rfl (w.heap.size + 1 + 1) (acells .u64 2 (fun _ => 0)) rfl rfl 39 _ (M2.at 2 rfl) (by rw [acells_size]; exact sizeC) (by simp only [acells_size]) (acells_one _ _ _) ?_))
      | (refine wpList_load_part rfl 32 _ rfl w.heap.size 0 rfl (fcells f) _ (M.at 0 rfl).whole Tryd.underlying32 rfl (by rw [fcells_size]; exact sizeFd) ?_)
      | (refine wpList_load_part rfl 34 _ rfl (w.heap.size + 1) 0 rfl #[.int .i8 (a 0), .int .i8 (a 1), .int .i8 (a 2), .int .i8 (a 3)] _ (M.at 1 rfl).whole Tryd.underlying34 rfl (by kernel_rfl) ?_))
    have M3 := M2.row 2 rfl (acells .u64 2 (fun _ => 0))
    exact bodyPost_ret (results_row_tmp rfl _ _ (w.heap.size + 1 + 1) 39 _ _ _ rfl (M3.at 2 rfl) Tryd.underlying39 rfl (by rw [acells_size]; exact sizeC)) rfl ⟨rfl, M3.below⟩
  | true =>
    have hfit : NetFits a := by
      simp only [Bool.and_eq_true, netOk] at hv
      obtain ⟨_, hW, _, hH⟩ := okF_size hv.1
      exact netIn_fits hW hH hv.2.1
    rw [netCode_yes hv, ans_0]
    go_enter Tryd.func14, Tryd.ntmps14
    go_upto_region 1 with (fail)
    rw [zero2]
    obtain ⟨W, hW, M⟩ := open3 w (fcells f) 32 #[.int .i8 (a 0), .int .i8 (a 1), .int .i8 (a 2), .int .i8 (a 3)] 34 (acells .u64 2 (fun _ => 0)) 39
    rw [hW]; clear hW
    go_wp2_with (first
      | (go_at_call 32; refine (specValidNet f hf a ha _).mono ?_; rintro e W2 ⟨rfl, hb⟩; have M2 := M.call hb; rw [hv]; clear M; go_wp2_with (first
        | (go_at_call 39; refine (l04Under_any a hfit _).mono ?_; rintro e W4 ⟨rfl, hb4⟩; have M4 := M2.call hb4; clear M2; go_wp2_with (refine wpList_store_row rfl 39 _ _ rfl (w.heap.size + 1 + 1) (acells .u64 2 (undA a)) rfl rfl 39 _ (M4.at 2 rfl) (by rw [acells_size]; exact sizeC) (by simp only [acells_size]) (acells_one _ _ _) ?_))
        | (refine wpList_load_part rfl 34 _ rfl (w.heap.size + 1) 0 rfl #[.int .i8 (a 0), .int .i8 (a 1), .int .i8 (a 2), .int .i8 (a 3)] _ (M2.at 1 rfl).whole Tryd.underlying34 rfl (by kernel_rfl) ?_)))
      | (refine wpList_load_part rfl 32 _ rfl w.heap.size 0 rfl (fcells f) _ (M.at 0 rfl).whole Tryd.underlying32 rfl (by rw [fcells_size]; exact sizeFd) ?_)
      | (refine wpList_load_part rfl 34 _ rfl (w.heap.size + 1) 0 rfl #[.int .i8 (a 0), .int .i8 (a 1), .int .i8 (a 2), .int .i8 (a 3)] _ (M.at 1 rfl).whole Tryd.underlying34 rfl (by kernel_rfl) ?_))
    have M3 := M4.row 2 rfl (acells .u64 2 (undA a))
    exact bodyPost_ret (results_row_tmp rfl _ _ (w.heap.size + 1 + 1) 39 _ _ _ rfl (M3.at 2 rfl) Tryd.underlying39 rfl (by rw [acells_size]; exact sizeC)) rfl ⟨rfl, M3.below⟩
set_option maxRecDepth 100000 in
set_option maxHeartbeats 2000000 in
theorem implCellsUnder (f : Fd) (hf : f.Wf) (a : Nat → Int) (ha : WfN a) (A : Nat → Addr) (w : World) (S0 : Sents w A) : Calls Tryd.prog 15 #[.agg (fcells f), vNet a] w fun e w' => e = .returned (.tuple #[.agg (acells .u64 2 (ans (netCode f a) (undA a))), .int .i64 (netCode f a)]) ∧ Below w.heap.size w w' := by
  have S : Hid (Sents w A) := Lib.hid S0
  clear S0
  have hF : Hid (∀ i, i < 1 → WfN ((fun _ : Nat => a) i)) := Lib.hid (fun _ _ => ha)
  have hcc : Hid (Value.tuple #[.agg (acells .u64 2 (ans (netsCode f 1 (fun _ => a)) (cov (fun _ => a) 1))), .int .i64 (netsCode f 1 (fun _ => a))] = .tuple #[.agg (acells .u64 2 (ans (netCode f a) (undA a))), .int .i64 (netCode f a)]) := Lib.hid (by
    rw [netsCode_net]
    cases hv : (okF f && netOk f a) with
    | false => rw [netCode_no hv]; rfl
    | true => rw [netCode_yes hv, ans_0, ans_0, cov_one])
  obtain ⟨g, hg⟩ : ∃ g, ans (netCode f a) (undA a) = g := ⟨_, rfl⟩
  obtain ⟨cd, hcd⟩ : ∃ cd, netCode f a = cd := ⟨_, rfl⟩
  rw [hg, hcd] at hcc
  rw [hg, hcd]
  clear hg hcd
  go_enter Tryd.func15, Tryd.ntmps15
  go_upto_region 1 with (fail)
  rw [zero2]
  obtain ⟨W, hW, M⟩ := open3 w (fcells f) 32 #[.int .i8 (a 0), .int .i8 (a 1), .int .i8 (a 2), .int .i8 (a 3)] 34 (acells .u64 2 (fun _ => 0)) 39
  rw [hW]; clear hW
  go_wp2_with (first
    | (go_at_call 20; refine (implCoveredBy f hf 1 (by omega) (fun _ => a) hF.out W.heap.size 0 1 A _ (row_inS (Blk.new _ _ _)) (S.out.later (M.alloc _ _).below)).mono ?_; rintro e W2 ⟨rfl, hb⟩; rw [hcc.out]; have M2 := (M.alloc _ _).call hb; clear M; go_wp2_with (refine wpList_store_row rfl 39 _ _ rfl (w.heap.size + 1 + 1) (acells .u64 2 (g)) rfl rfl 39 _ (M2.at 2 rfl) (by rw [acells_size]; exact sizeC) (by simp only [acells_size]) (acells_one _ _ _) ?_))
    | (refine wpList_buildRow rfl 46 34 _ rfl #[.int .i8 (a 0), .int .i8 (a 1), .int .i8 (a 2), .int .i8 (a 3)] rfl Tryd.underlying46 (by kernel_rfl) (by kernel_rfl) (by decide) (by decide) ?_)
    | (refine wpList_load_part rfl 32 _ rfl w.heap.size 0 rfl (fcells f) _ (M.at 0 rfl).whole Tryd.underlying32 rfl (by rw [fcells_size]; exact sizeFd) ?_)
    | (refine wpList_load_part rfl 34 _ rfl (w.heap.size + 1) 0 rfl #[.int .i8 (a 0), .int .i8 (a 1), .int .i8 (a 2), .int .i8 (a 3)] _ (M.at 1 rfl).whole Tryd.underlying34 rfl (by kernel_rfl) ?_))
  have M3 := M2.row 2 rfl (acells .u64 2 g)
  exact bodyPost_ret (results_row_tmp rfl _ _ (w.heap.size + 1 + 1) 39 _ _ _ rfl (M3.at 2 rfl) Tryd.underlying39 rfl (by rw [acells_size]; exact sizeC)) rfl ⟨rfl, M3.below⟩
end
end Go.Proofs.YtkhhkacmfkipgaaDoor
