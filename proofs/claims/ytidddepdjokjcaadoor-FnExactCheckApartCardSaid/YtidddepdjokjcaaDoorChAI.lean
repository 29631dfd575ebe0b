/-
  Whether cells are apart: the program's.
-/
import Derived.Test.YtidddepdjokjcaaDoorChAS
namespace Go.Proofs.YtidddepdjokjcaaDoor
open Go Go.RowKit Go.Shelf
attribute [local go_sem] Oper.semAt_some

set_option maxRecDepth 100000 in
theorem isSoilZ (f : Fd) (hf : f.Wf) (hok : okF f = true) (c : Int) (hc0 : -9223372036854775808 ≤ c ∧ c ≤ 9223372036854775807) (w : World) :
    Calls Tryd.prog 38 #[.agg (fcells f), .int .i64 c] w fun e w' => e = .returned (.bool (soilB f c)) ∧ Below w.heap.size w w' := by
  have hH : f.H ≤ 10 := (okF_size hok).2.2.2
  cases hc : isCell f c with
  | true =>
    obtain ⟨k, hk, rfl⟩ := cell_nat hc
    unfold soilB
    rw [Int.toNat_natCast]
    exact isSoil_any f hf hok k hk w
  | false =>
    unfold soilB
    rw [hc, Bool.false_and]
    go_enter Tryd.func38, Tryd.ntmps38
    go_upto_region 1 with (fail)
    obtain ⟨W, hW, M⟩ := open1 w (fcells f) 33
    rw [hW]; clear hW
    go_wp2_with (first
      | (refine wpList_load_part rfl 33 _ rfl w.heap.size 0 rfl (fcells f) _ (M.at 0 rfl).whole Tryd.underlying33 rfl (by rw [fcells_size]; exact sizeFd) ?_)
      | (go_at_call 62; refine (fieldHas_any f hf hH c hc0.1 hc0.2 _).mono ?_; rintro e W2 ⟨rfl, hb⟩; rw [hc]; have M2 := M.call hb; clear M hb))
    go_ret
    exact ⟨rfl, M2.below⟩
/-- The first k of a list. -/
def lk (g : Nat → Int) (k : Nat) : List Int := (List.range k).map g
theorem lk_len (g : Nat → Int) (k : Nat) : (lk g k).length = k := by simp [lk]
theorem lk_at {g : Nat → Int} {k i : Nat} (h : i < k) : (lk g k).getD i 0 = g i := by simp [lk, List.getD, h]
theorem lk_succ (g : Nat → Int) (k : Nat) : lk g (k + 1) = lk g k ++ [g k] := by simp [lk, List.range_succ]
theorem inL_lk (g : Nat → Int) (k : Nat) (c : Int) : inL (fun i => (lk g k).getD i 0) (lk g k).length c = inL g k c := by
  unfold inL
  rw [lk_len, allTo_congr (q := fun i => g i != c) (fun i hi => by show ((lk g k).getD i 0 != c) = (g i != c); rw [lk_at hi])]
theorem fine_lk (CS : Int → Nat → Int) (g : Nat → Int) (k : Nat) : fineT CS (lk g k) (g k) (lk g k).length = djA CS g k := by
  unfold fineT djA
  rw [lk_len]
  exact allTo_congr (fun i hi => by rw [lk_at hi])
theorem chaB_steps {CS : Int → Nat → Int} {f : Fd} {g : Nat → Int} {m : Nat} (h : ∀ k, k < m → okA f g k = true ∧ djA CS g k = true) : chaB CS f g m = true := by
  unfold chaB
  rw [allTo_iff.2 (fun k hk => (h k hk).1), allTo_iff.2 (fun k hk => (h k hk).2)]; rfl
theorem chaB_no {CS : Int → Nat → Int} {f : Fd} {g : Nat → Int} {m k : Nat} (hk : k < m) (h : (okA f g k && djA CS g k) = false) : chaB CS f g m = false := by
  unfold chaB
  cases h1 : okA f g k with
  | false => rw [allTo_false hk h1, Bool.false_and]
  | true =>
    rw [h1, Bool.true_and] at h
    rw [allTo_false (p := djA CS g) hk h, Bool.and_false]
set_option maxRecDepth 100000 in
set_option maxHeartbeats 8000000 in
theorem implCheckApart (f : Fd) (hf : f.Wf) (x y : Int) (m : Nat) (hm : m ≤ 2 ^ 38) (g : Nat → Int) (hg0 : ∀ i, i < m → -9223372036854775808 ≤ g i ∧ g i ≤ 9223372036854775807) (b c : Nat) (A : Nat → Addr) (w : World) (I : InI w b 0 m g) (S0 : Sents w A) : Calls Tryd.prog 17 #[.agg (fcells f), .int .i64 x, .int .i64 y, .slice (some ⟨b, 0, none⟩) m c] w fun e w' => e = .returned (.tuple #[.bool (chaVal f x y m g), .int .i64 (apCode f x y)]) ∧ Below w.heap.size w w' := by
  have S : Hid (Sents w A) := Lib.hid S0
  have HI := Lib.hid I
  clear S0 I
  have hif := isIfaceErr
  have hgm : apCode f x y = gmCode f (allTo 0 (fun i => isCell f ((fun _ => (0 : Int)) i)) && inB y 1 1000 && inB x 1 1000) := by
    unfold apCode gmCode
    simp only [allTo, List.range_zero, List.all_nil, Bool.true_and]
    cases okF f <;> cases inB x 1 1000 <;> cases inB y 1 1000 <;> rfl
  have HCH := Lib.hid (fun (W : World) (S : Sents W A) => checkCovering_any f hf x y 0 (by omega) (fun _ => (0 : Int)) (fun _ _ => ⟨by decide, by decide⟩) none 0 A W (.inl rfl) S)
  have bad : ∀ k : Nat, 1 ≤ k → k ≤ 8 → apCode f x y = k → Calls Tryd.prog 17 #[.agg (fcells f), .int .i64 x, .int .i64 y, .slice (some ⟨b, 0, none⟩) m c] w fun e w' => e = .returned (.tuple #[.bool (chaVal f x y m g), .int .i64 (apCode f x y)]) ∧ Below w.heap.size w w' := by
    intro k h1 h8 hk
    have hv : chaVal f x y m g = false := by unfold chaVal; rw [hk, if_neg (by omega)]
    have HE : Hid (askErr A (gmCode f (allTo 0 (fun i => isCell f ((fun _ => (0 : Int)) i)) && inB y 1 1000 && inB x 1 1000)) = errVal (A k)) := Lib.hid (by rw [← hgm, hk]; unfold askErr; rw [if_neg (by omega), Int.toNat_natCast])
    rw [hv, hk]
    clear hk hgm hv
    go_enter Tryd.func17, Tryd.ntmps17
    go_upto_region 1 with (fail)
    obtain ⟨W, hW, M⟩ := open1 w (fcells f) 33
    rw [hW]; clear hW
    go_wp2_with (first
      | (refine wpList_load_part rfl 33 _ rfl w.heap.size 0 rfl (fcells f) _ (M.at 0 rfl).whole Tryd.underlying33 rfl (by rw [fcells_size]; exact sizeFd) ?_)
      | (go_at_call 26; refine (HCH.out _ (S.out.later M.below)).mono ?_; rintro e W2 ⟨rfl, hb⟩; rw [HE.out]; have M2 := M.call hb; clear M hb)
      | (go_at_call 27; refine (codeOf_err A k h1 h8 _ (S.out.later M2.below)).mono ?_; rintro e W3 ⟨rfl, rfl⟩))
    go_ret2
    exact ⟨rfl, M2.below⟩
  rcases gm_cases f (inB x 1 1000 && inB y 1 1000) with ⟨h0, hok, hq⟩ | ⟨h0, _⟩ | ⟨h0, _⟩
  · have hcode : apCode f x y = 0 := h0
    have HE : Hid (askErr A (gmCode f (allTo 0 (fun i => isCell f ((fun _ => (0 : Int)) i)) && inB y 1 1000 && inB x 1 1000)) = .nilIface) := Lib.hid (by rw [← hgm, hcode]; rfl)
    have hxy : inB x 1 1000 = true ∧ inB y 1 1000 = true := by simpa using hq
    have hx := Lib.hid (inB_iff.1 hxy.1)
    obtain ⟨CS, hCS⟩ : ∃ CS, cS f x y = CS := ⟨_, rfl⟩
    obtain ⟨rv, hrv⟩ : ∃ rv, chaVal f x y m g = rv := ⟨_, rfl⟩
    have HRV : Hid (chaB CS f g m = rv) := Lib.hid (by rw [← hrv, ← hCS]; unfold chaVal; rw [hcode, if_pos rfl])
    have HN : Hid (∀ c, N100 (CS c)) := Lib.hid (fun c => by rw [← hCS]; exact want_N100A f _ 100 (Nat.le_refl _))
    obtain ⟨AL, hAL⟩ : ∃ AL, cvAll f x y = AL := ⟨_, rfl⟩
    have HAL := Lib.hid hAL
    have HCS : Hid (∀ c, c < 100 → cvrT AL c 100 = CS (c : Int)) := Lib.hid (fun c hc => by rw [← hAL, cvrT_all f x y c hc, ← hCS]; unfold cS; rw [Int.toNat_natCast])
    have HOK := Lib.hid hok
    have HG0 := Lib.hid hg0
    rw [hrv, hcode]
    clear bad h0 hok hq hxy hcode hgm hCS hAL hrv hg0
    go_enter Tryd.func17, Tryd.ntmps17
    have hzc : Hid (Tryd.zeroCells65.size = 200) := Lib.hid (by rw [zeroCv, acells_size])
    have hzr : ∀ w : World, (zeroValue 65).run Tryd.prog w = .ok (.agg Tryd.zeroCells65) w := fun w => zero_run (by kernel_rfl) w
    go_upto_region 1 with (fail)
    obtain ⟨W, hW, M⟩ := open1 w (fcells f) 33
    rw [hW]; clear hW
    go_upto_region 5 with (first
      | (refine wpList_load_part rfl 33 _ rfl w.heap.size 0 rfl (fcells f) _ (M.at 0 rfl).whole Tryd.underlying33 rfl (by rw [fcells_size]; exact sizeFd) ?_)
      | (go_at_call 26; refine (HCH.out _ (S.out.later M.below)).mono ?_; rintro e W2 ⟨rfl, hb⟩; rw [HE.out]; have M2 := M.call hb; clear M hb)
      | (refine wpList_load_part rfl 33 _ rfl w.heap.size 0 rfl (fcells f) _ (M2.at 0 rfl).whole Tryd.underlying33 rfl (by rw [fcells_size]; exact sizeFd) ?_)
      | (go_at_call 32; refine (coversOn_any f hf HOK.out x y hx.out A _ (S.out.later M2.below)).mono ?_; rintro e W3 ⟨rfl, hb⟩; rw [HAL.out]; have M3 := M2.call hb; clear M2 hb; have M4 := M3.alloc Tryd.zeroCells65 65)
      | (refine wpList_store_row rfl 65 _ _ rfl W3.heap.size (acells .u64 200 (flat AL)) rfl rfl 65 _ (M4.at 1 rfl) (by rw [acells_size]; exact sizeCv) (by rw [acells_size, hzc.out]) (acells_one _ _ _) ?_))
    obtain ⟨cb, hcb⟩ : ∃ cb, cb = W3.heap.size := ⟨_, rfl⟩
    have M5 : Mem w ((W3.alloc (Obj.cells Tryd.zeroCells65 65)).setRow W3.heap.size (acells .u64 200 (flat AL))) [⟨w.heap.size, fcells f, 33⟩, ⟨cb, acells .u64 200 (flat AL), 65⟩] := by
      rw [hcb]
      exact M4.row 1 rfl (acells .u64 200 (flat AL))
    generalize World.setRow _ _ _ = W4 at M5 ⊢
    rw [← hcb]
    clear hcb M3 M4 hzc hzr
    go_upto_region 6 with (fail)
    obtain ⟨gb, hgb⟩ : ∃ gb, gb = W4.heap.size := ⟨_, rfl⟩
    have M6 : Mem w (W4.alloc (Obj.cells #[.slice none 0 0, .int .u64 0, .int .u64 0] 68)) [⟨w.heap.size, fcells f, 33⟩, ⟨cb, acells .u64 200 (flat AL), 65⟩, ⟨gb, grp (.slice none 0 0) (unS CS (lk g 0)), 68⟩] := by rw [hgb]; exact M5.alloc #[.slice none 0 0, .int .u64 0, .int .u64 0] 68
    have hgw : w.heap.size ≤ gb := by rw [hgb]; exact M5.below.size
    generalize W4.alloc _ = W5 at M6 ⊢
    rw [← hgb]
    clear hgb M5
    have hne : ∀ (cs : Array Value), ∀ x ∈ ([⟨w.heap.size, fcells f, 33⟩, ⟨cb, acells .u64 200 (flat AL), 65⟩, ⟨gb, cs, 68⟩] : List Ent), x.t ≠ 2 := by
      intro cs x hx
      simp only [List.mem_cons, List.mem_nil_iff, or_false] at hx
      rcases hx with rfl | rfl | rfl
      · show (33 : TypeId) ≠ 2; decide
      · show (65 : TypeId) ≠ 2; decide
      · show (68 : TypeId) ≠ 2; decide
    have HNE := Lib.hid hne
    have HM6 := Lib.hid M6
    clear hne M6
    go_wp2_with fail
    go_loopw [14, 29] (fun _ i wr => ∃ (k : Nat) (v : Value), k ≤ m ∧ i = .int .i64 k ∧ Hid (∀ j, j < k → okA f g j = true ∧ djA CS g j = true) ∧ Hid (Mem w wr [⟨w.heap.size, fcells f, 33⟩, ⟨cb, acells .u64 200 (flat AL), 65⟩, ⟨gb, grp v (unS CS (lk g k)), 68⟩]) ∧ Hid (wr.ownsRow gb 2 1 v (lk g k).length ((lk g k).map (Value.int .i64)))) (fun _ i _ => m - (intOf i).toNat)
    case atStart => exact ⟨0, .slice none 0 0, by omega, rfl, Lib.hid (fun j hj => absurd hj (by omega)), HM6, Lib.hid (World.ownsRow_nil _ _ _ _)⟩
    case round =>
      clear HM6
      obtain ⟨k, v, hk, rfl, hall, hM, hO⟩ := hrel
      by_cases hlt : k < m
      · have cG := (HI.out.later hM.out.below) k hlt
        rw [Nat.zero_add] at cG
        have hgb := HG0.out k hlt
        have hcs : (okA f g k && djA CS g k) = false → rv = false := fun h => by rw [← HRV.out]; exact chaB_no hlt h
        have hoa : okA f g k = (soilB f (g k) && !inL g k (g k)) := rfl
        have hil := inL_lk g k (g k)
        have hfl := fine_lk CS g k
        have hsu := lk_succ g k
        have hll := lk_len g k
        obtain ⟨z, hz⟩ : ∃ z, g k = z := ⟨_, rfl⟩
        rw [hz] at cG hgb hoa hil hfl hsu
        clear hz
        obtain ⟨s, hs⟩ : ∃ s, soilB f z = s := ⟨_, rfl⟩
        have HS := Lib.hid hs
        rw [hs] at hoa
        cases s with
        | false =>
          obtain rfl : rv = false := hcs (by rw [hoa]; rfl)
          clear hcs hoa hil hfl hsu hs
          go_wp2_with (first
            | (refine wpList_load_part rfl 33 _ rfl w.heap.size 0 rfl (fcells f) _ (hM.out.at 0 rfl).whole Tryd.underlying33 rfl (by rw [fcells_size]; exact sizeFd) ?_)
            | (go_at_call 38; refine (isSoilZ f hf HOK.out z hgb _).mono ?_; rintro e W9 ⟨rfl, hb⟩; rw [HS.out]; have MA := hM.out.call hb; clear hb))
          go_ret2
          exact ⟨rfl, MA.below⟩
        | true =>
          have hzin := soil_cell hs
          obtain ⟨z9, rfl⟩ : ∃ z9 : Nat, z = (z9 : Int) := ⟨z.toNat, by omega⟩
          have hz9 : z9 < 100 := by omega
          clear hs
          obtain ⟨R, hR⟩ : ∃ R, lk g k = R := ⟨_, rfl⟩
          rw [hR] at hM hO hil hfl hsu hll
          have hfi := fine_iff HN.out R (z9 : Int)
          have hU : N100 (unS CS R) := unF_N100 HN.out R _ zero_N100
          cases hk2 : takB CS R (z9 : Int) with
          | false =>
            have hor : (inL (fun i => R.getD i 0) R.length (z9 : Int) || !(fineT CS R (z9 : Int) R.length)) = true := by
              unfold takB at hk2
              revert hk2
              cases inL (fun i => R.getD i 0) R.length (z9 : Int) <;> cases fineT CS R (z9 : Int) R.length <;> simp
            obtain rfl : rv = false := hcs (by
              rw [hoa, ← hil, ← hfl]
              revert hor
              cases inL (fun i => R.getD i 0) R.length (z9 : Int) <;> cases fineT CS R (z9 : Int) R.length <;> simp)
            have HT := Lib.hid (fun (W : World) B O => takes_no (unS CS R) (CS (z9 : Int)) hU (HN.out _) _ hfi R (by omega) (z9 : Int) hor gb gb v W B O)
            clear hor hfi hcs hoa hil hfl hsu hk2 hR
            go_wp2_with (first
              | (refine wpList_load_part rfl 33 _ rfl w.heap.size 0 rfl (fcells f) _ (hM.out.at 0 rfl).whole Tryd.underlying33 rfl (by rw [fcells_size]; exact sizeFd) ?_)
              | (go_at_call 38; refine (isSoilZ f hf HOK.out _ hgb _).mono ?_; rintro e W9 ⟨rfl, hb⟩; rw [HS.out]; have MA := hM.out.call hb; have OA := owns_belowT hO.out hb; clear hb)
              | (go_at_call 35; refine (coverersOf_any AL z9 _ _ (MA.at 1 rfl)).mono ?_; rintro e W10 ⟨rfl, hb⟩; rw [HCS.out _ hz9]; have MB := MA.call hb; have OB := owns_belowT OA hb; clear hb)
              | (go_at_call 34; refine (HT.out _ (MB.at 2 rfl) OB).mono ?_; rintro e W11 ⟨rfl, hb⟩; have MC := MB.call hb; clear hb))
            go_ret2
            exact ⟨rfl, MC.below⟩
          | true =>
            have hand : inL (fun i => R.getD i 0) R.length (z9 : Int) = false ∧ fineT CS R (z9 : Int) R.length = true := by
              unfold takB at hk2
              revert hk2
              cases inL (fun i => R.getD i 0) R.length (z9 : Int) <;> cases fineT CS R (z9 : Int) R.length <;> simp
            have hstep : Hid (okA f g k = true ∧ djA CS g k = true) := Lib.hid ⟨by rw [hoa, ← hil, hand.1]; rfl, by rw [← hfl]; exact hand.2⟩
            have HT := Lib.hid (fun (W : World) hn B O => takes_yes (unS CS R) (CS (z9 : Int)) hU (HN.out _) (hfi.1 hand.2) R (by omega) (z9 : Int) hand.1 gb gb v W hn B O)
            have HUS := Lib.hid (unS_snoc CS R (z9 : Int))
            have HSU := Lib.hid hsu
            clear hand hfi hcs hoa hil hfl hsu hk2 hR
            go_wp2_with (first
              | (refine wpList_load_part rfl 33 _ rfl w.heap.size 0 rfl (fcells f) _ (hM.out.at 0 rfl).whole Tryd.underlying33 rfl (by rw [fcells_size]; exact sizeFd) ?_)
              | (go_at_call 38; refine (isSoilZ f hf HOK.out _ hgb _).mono ?_; rintro e W9 ⟨rfl, hb⟩; rw [HS.out]; have MA := hM.out.call hb; have OA := owns_belowT hO.out hb; clear hb)
              | (go_at_call 35; refine (coverersOf_any AL z9 _ _ (MA.at 1 rfl)).mono ?_; rintro e W10 ⟨rfl, hb⟩; rw [HCS.out _ hz9]; have MB := MA.call hb; have OB := owns_belowT OA hb; clear hb)
              | (go_at_call 34; refine (HT.out _ (Nat.le_of_lt (MB.at 2 rfl).lt) (MB.at 2 rfl) OB).mono ?_; rintro e W11 ⟨v2, rfl, hB2, hO2, hF2⟩; have MC := MB.framed hF2 2 rfl OB hgw (HNE.out _) _ hB2; clear hB2 hF2))
            go_roundw
            case rel =>
              refine ⟨k + 1, v2, by omega, by go_num, Lib.hid (fun j hj => by
                by_cases e : j = k
                · subst e; exact hstep.out
                · exact hall.out j (by omega)), ?_, ?_⟩
              · rw [HSU.out, HUS.out]; exact Lib.hid MC
              · rw [HSU.out]; exact Lib.hid hO2
            case measure => simp [intOf]; omega
      · obtain rfl : k = m := by omega
        obtain rfl : rv = true := by rw [← HRV.out]; exact chaB_steps hall.out
        clear hlt hk
        go_wp2_with fail
        go_ret2
        exact ⟨rfl, hM.out.below⟩
  · exact bad 1 (by omega) (by omega) h0
  · exact bad 2 (by omega) (by omega) h0
end Go.Proofs.YtidddepdjokjcaaDoor
