/-
  RichestIn: the model's, the program's.
-/
import Derived.Test.YtcaeihhdapghkaaDoorBestI
import Derived.Test.YtcaeihhdapghkaaDoorAt
import Derived.BigQuiet
namespace Go.Proofs.YtcaeihhdapghkaaDoor
open Go Go.RowKit

def rich (f : Fd) (g : Nat → Int) (n : Nat) : Int := bestTo (inSet f g) f.S n
def richCode (f : Fd) (g : Nat → Int) : Int := if okF f = true then (if rich f g 100 = -1 then 6 else 0) else 1
def richCell (f : Fd) (g : Nat → Int) : Int := if okF f = true then (if rich f g 100 = -1 then 0 else rich f g 100) else 0
def richSeeds (f : Fd) (g : Nat → Int) : Int := if okF f = true then (if rich f g 100 = -1 then 0 else f.S (rich f g 100).toNat) else 0
theorem rich_bad {f : Fd} {g : Nat → Int} (h : okF f = false) : richCode f g = 1 ∧ richCell f g = 0 ∧ richSeeds f g = 0 := by
  have h' : ¬ (okF f = true) := by rw [h]; exact Bool.false_ne_true
  unfold richCode richCell richSeeds; rw [if_neg h', if_neg h', if_neg h']; exact ⟨rfl, rfl, rfl⟩
theorem rich_none {f : Fd} {g : Nat → Int} (h : okF f = true) (h1 : rich f g 100 = -1) : richCode f g = 6 ∧ richCell f g = 0 ∧ richSeeds f g = 0 := by
  unfold richCode richCell richSeeds; rw [if_pos h, if_pos h, if_pos h, if_pos h1, if_pos h1, if_pos h1]; exact ⟨rfl, rfl, rfl⟩
theorem rich_some {f : Fd} {g : Nat → Int} {p : Nat} (h : okF f = true) (h1 : rich f g 100 = (p : Int)) : richCode f g = 0 ∧ richCell f g = (p : Int) ∧ richSeeds f g = f.S p := by
  have h2 : ¬ (rich f g 100 = -1) := by omega
  unfold richCode richCell richSeeds; rw [if_pos h, if_pos h, if_pos h, if_neg h2, if_neg h2, if_neg h2, h1, Int.toNat_natCast]; exact ⟨rfl, rfl, rfl⟩
set_option maxRecDepth 100000 in
set_option maxHeartbeats 4000000 in
theorem specRichestIn (f : Fd) (hf : f.Wf) (g : Nat → Int) (w : World) : Calls Tryd.prog 11 #[.agg (fcells f), .agg (acells .u64 2 g)] w fun e w' => e = .returned (.tuple #[.int .i64 (richCell f g), .int .i64 (richSeeds f g), .int .i64 (richCode f g)]) ∧ Below w.heap.size w w' := by
  cases hok : okF f with
  | false =>
    obtain ⟨e1, e2, e3⟩ := rich_bad (g := g) hok
    rw [e1, e2, e3]; clear e1 e2 e3
    go_enter Tryd.func11, Tryd.ntmps11
    go_upto_region 1 with (fail)
    obtain ⟨W, hW, M⟩ := open2 w (fcells f) 32 (acells .u64 2 g) 34
    rw [hW]; clear hW
    go_wp2_with (first
      | (go_at_call 51; refine (l01Ok_any f hf _ _ (M.at 0 rfl)).mono ?_; rintro e w' ⟨rfl, rfl⟩; rw [hok]))
    exact bodyPost_ret (v := .tuple #[.int .i64 0, .int .i64 0, .int .i64 1]) (by simp [results, Tryd.results11, go_sem]) rfl ⟨rfl, M.below⟩
  | true =>
    have hcase : (richCode f g = 6 ∧ richCell f g = 0 ∧ richSeeds f g = 0 ∧ rich f g 100 = -1) ∨ ∃ p : Nat, p < 100 ∧ richCode f g = 0 ∧ richCell f g = (p : Int) ∧ richSeeds f g = f.S p ∧ rich f g 100 = (p : Int) := by
      rcases best_cases (inSet f g) f.S 100 with h1 | ⟨p, h1, h2, h3⟩
      · obtain ⟨e1, e2, e3⟩ := rich_none (g := g) hok h1
        exact .inl ⟨e1, e2, e3, h1⟩
      · obtain ⟨e1, e2, e3⟩ := rich_some (g := g) hok h1
        exact .inr ⟨p, h2, e1, e2, e3, h1⟩
    have HC := Lib.hid hcase
    clear hcase
    go_enter Tryd.func11, Tryd.ntmps11
    go_upto_region 1 with (fail)
    obtain ⟨W, hW, M⟩ := open2 w (fcells f) 32 (acells .u64 2 g) 34
    rw [hW]; clear hW
    go_wp2_with (first
      | (go_at_call 51; refine (l01Ok_any f hf _ _ (M.at 0 rfl)).mono ?_; rintro e w' ⟨rfl, rfl⟩; rw [hok]))
    go_loopw [7, 8] (fun v i wr => ∃ k : Nat, k ≤ 100 ∧ v = .int .i64 (rich f g k) ∧ i = .int .i64 k ∧ Hid (Mem w wr [⟨w.heap.size, fcells f, 32⟩, ⟨w.heap.size + 1, acells .u64 2 g, 34⟩])) (fun _ i _ => 100 - (intOf i).toNat)
    case atStart => exact ⟨0, by omega, rfl, rfl, Lib.hid M⟩
    case round =>
      clear M
      obtain ⟨k, hk, rfl, rfl, hM⟩ := hrel
      by_cases hlt : k < 100
      · have hk1 : (k : Int) < 100 := by omega
        cases hic : isCell f (k : Int) with
        | false =>
          have hno : Hid (rich f g (k + 1) = rich f g k) := Lib.hid (best_no (by unfold inSet; rw [hic]; rfl))
          go_wp2_with fail
          go_quiet (first
            | (go_at_call 52; refine Calls.quiet_of_same ((l01Is_any f k w.heap.size _ hf.W hf.H ((hM.out.at 0 rfl).drewN _)).mono (fun e w9 h => ⟨h.1.trans (by rw [hic]), h.2.symm⟩))))
          go_wp2_with fail
          go_roundw
          case rel => exact ⟨k + 1, by omega, by rw [hno.out], by go_num, Lib.hid (hM.out.drewN nq)⟩
          case measure => simp [intOf]; omega
        | true =>
          cases hhc : hasC g (k : Int) with
          | false =>
            have hno : Hid (rich f g (k + 1) = rich f g k) := Lib.hid (best_no (by unfold inSet; rw [hic, hhc]; rfl))
            go_wp2_with fail
            go_quiet (first
              | (go_at_call 52; refine Calls.quiet_of_same ((l01Is_any f k w.heap.size _ hf.W hf.H ((hM.out.at 0 rfl).drewN _)).mono (fun e w9 h => ⟨h.1.trans (by rw [hic]), h.2.symm⟩)))
              | (go_at_call 53; refine Calls.quiet_of_same ((l01Has_any g k (w.heap.size + 1) _ ((hM.out.at 1 rfl).drewN _)).mono (fun e w9 h => ⟨h.1.trans (by rw [hhc]), h.2.symm⟩))))
            go_wp2_with fail
            go_roundw
            case rel => exact ⟨k + 1, by omega, by rw [hno.out], by go_num, Lib.hid (hM.out.drewN nq)⟩
            case measure => simp [intOf]; omega
          | true =>
            have hm : inSet f g k = true := by unfold inSet; rw [hic, hhc]; rfl
            rcases best_cases (inSet f g) f.S k with h1 | ⟨p, h1, h2, h3⟩
            · have hyes : Hid (rich f g (k + 1) = (k : Int)) := Lib.hid (best_first hm h1)
              rw [show rich f g k = -1 from h1]
              clear h1 hm
              go_wp2_with fail
              go_quiet (first
                | (go_at_call 52; refine Calls.quiet_of_same ((l01Is_any f k w.heap.size _ hf.W hf.H ((hM.out.at 0 rfl).drewN _)).mono (fun e w9 h => ⟨h.1.trans (by rw [hic]), h.2.symm⟩)))
                | (go_at_call 53; refine Calls.quiet_of_same ((l01Has_any g k (w.heap.size + 1) _ ((hM.out.at 1 rfl).drewN _)).mono (fun e w9 h => ⟨h.1.trans (by rw [hhc]), h.2.symm⟩))))
              go_wp2_with fail
              go_roundw
              case rel => exact ⟨k + 1, by omega, by rw [hyes.out], by go_num, Lib.hid (hM.out.drewN nq)⟩
              case measure => simp [intOf]; omega
            · have hp : p < 100 := by omega
              have hp1 : (p : Int) < 100 := by omega
              have hp0 : decide ((p : Int) < 0) = false := decide_eq_false (by omega)
              have cK := (hM.out.at 0 rfl).cell (fcells_S f k hlt)
              have cP := (hM.out.at 0 rfl).cell (fcells_S f p hp)
              by_cases h4 : f.S p < f.S k
              · have hyes : Hid (rich f g (k + 1) = (k : Int)) := Lib.hid (best_more hm h1 h4)
                rw [show rich f g k = (p : Int) from h1]
                clear h1 h3 hm
                go_wp2_with fail
                go_quiet (first
                  | (go_at_call 52; refine Calls.quiet_of_same ((l01Is_any f k w.heap.size _ hf.W hf.H ((hM.out.at 0 rfl).drewN _)).mono (fun e w9 h => ⟨h.1.trans (by rw [hic]), h.2.symm⟩)))
                  | (go_at_call 53; refine Calls.quiet_of_same ((l01Has_any g k (w.heap.size + 1) _ ((hM.out.at 1 rfl).drewN _)).mono (fun e w9 h => ⟨h.1.trans (by rw [hhc]), h.2.symm⟩))))
                go_wp2_with fail
                go_roundw
                case rel => exact ⟨k + 1, by omega, by rw [hyes.out], by go_num, Lib.hid (hM.out.drewN nq)⟩
                case measure => simp [intOf]; omega
              · have hno : Hid (rich f g (k + 1) = (p : Int)) := Lib.hid (best_less h1 h4)
                have h5 : decide (f.S p < f.S k) = false := decide_eq_false h4
                rw [show rich f g k = (p : Int) from h1]
                clear h1 h3 hm
                go_wp2_with fail
                go_quiet (first
                  | (go_at_call 52; refine Calls.quiet_of_same ((l01Is_any f k w.heap.size _ hf.W hf.H ((hM.out.at 0 rfl).drewN _)).mono (fun e w9 h => ⟨h.1.trans (by rw [hic]), h.2.symm⟩)))
                  | (go_at_call 53; refine Calls.quiet_of_same ((l01Has_any g k (w.heap.size + 1) _ ((hM.out.at 1 rfl).drewN _)).mono (fun e w9 h => ⟨h.1.trans (by rw [hhc]), h.2.symm⟩))))
                go_wp2_with fail
                go_roundw
                case rel => exact ⟨k + 1, by omega, by rw [hno.out], by go_num, Lib.hid (hM.out.drewN nq)⟩
                case measure => simp [intOf]; omega
      · obtain rfl : k = 100 := by omega
        rcases HC.out with ⟨e1, e2, e3, e4⟩ | ⟨p, hp, e1, e2, e3, e4⟩
        · rw [e4]
          have G := Lib.hid (show 0 = richCell f g ∧ 0 = richSeeds f g ∧ 6 = richCode f g from ⟨e2.symm, e3.symm, e1.symm⟩)
          clear e1 e2 e3 e4 HC
          go_wp2_with fail
          exact bodyPost_ret (v := .tuple #[.int .i64 0, .int .i64 0, .int .i64 6]) (by simp [results, Tryd.results11, go_sem]) rfl ⟨by rw [← G.out.1, ← G.out.2.1, ← G.out.2.2], hM.out.below⟩
        · rw [e4]
          have G := Lib.hid (show (p : Int) = richCell f g ∧ f.S p = richSeeds f g ∧ 0 = richCode f g from ⟨e2.symm, e3.symm, e1.symm⟩)
          clear e1 e2 e3 e4 HC
          have hp1 : (p : Int) < 100 := by omega
          have hp0 : ¬ ((p : Int) < 0) := by omega
          have cP := (hM.out.at 0 rfl).cell (fcells_S f p hp)
          obtain ⟨s1, s2⟩ := hf.S p hp
          go_wp2_with fail
          go_quiet (fail)
          go_wp2_with fail
          exact bodyPost_ret (v := .tuple #[.int .i64 p, .int .i64 (f.S p), .int .i64 0]) (by simp [results, Tryd.results11, go_sem]) rfl ⟨by rw [← G.out.1, ← G.out.2.1, ← G.out.2.2], (hM.out.drewN nq).below⟩

set_option maxRecDepth 100000 in
theorem rich_closure (f : Fd) (hf : f.Wf) (k : Nat) (hk : k < 100) (b : Nat) (w : World) (B : Blk w b (fcells f) 32) :
    Calls Tryd.prog 55 #[.int .i64 k, .pointer (some ⟨b, 0, none⟩)] w fun e w' => e = .returned (.int .i64 (f.S k)) ∧ Below w.heap.size w w' := by
  have hk1 : (k : Int) < 100 := by omega
  have cK := B.cell (fcells_S f k hk)
  obtain ⟨s1, s2⟩ := hf.S k hk
  go_enter Tryd.func55, Tryd.ntmps55
  go_wp2_with fail
  go_ret
  exact ⟨rfl, Below.refl _ _⟩

set_option maxRecDepth 100000 in
set_option maxHeartbeats 4000000 in
theorem implRichestIn (f : Fd) (hf : f.Wf) (g : Nat → Int) (A : Nat → Addr) (w : World) (S0 : Sents w A) : Calls Tryd.prog 12 #[.agg (fcells f), .agg (acells .u64 2 g)] w fun e w' => e = .returned (.tuple #[.int .i64 (richCell f g), .int .i64 (richSeeds f g), .int .i64 (richCode f g)]) ∧ Below w.heap.size w w' := by
  have S : Hid (Sents w A) := Lib.hid S0
  clear S0
  have hif := isIfaceErr
  cases hok : okF f with
  | false =>
    obtain ⟨e1, e2, e3⟩ := rich_bad (g := g) hok
    rw [e1, e2, e3]; clear e1 e2 e3
    go_enter Tryd.func12, Tryd.ntmps12
    go_upto_region 1 with (fail)
    obtain ⟨W, hW, M⟩ := open2 w (fcells f) 32 (acells .u64 2 g) 34
    rw [hW]; clear hW
    go_wp2_with (first
      | (refine wpList_load_part rfl 32 _ rfl w.heap.size 0 rfl (fcells f) _ (M.at 0 rfl).whole Tryd.underlying32 rfl (by rw [fcells_size]; exact sizeFd) ?_)
      | (refine wpList_buildRow rfl 105 32 _ rfl (fcells f) rfl Tryd.underlying105 (by rw [fcells_size]; exact sizeFd) (by rw [fcells_size]; kernel_rfl) (by rw [fcells_size]; omega) (by rw [fcells_size]; omega) ?_)
      | (go_at_call 54; refine (checkFields1 f hf A _ _ _ (Blk.new _ _ _) (S.out.later (M.alloc _ _).below)).mono ?_; rintro e W2 ⟨rfl, hb⟩; rw [hok, errIf_false]; have M2 := (M.alloc _ _).call hb; clear hb)
      | (go_at_call 47; refine (codeOf_err A 1 (by omega) (by omega) _ (S.out.later M2.below)).mono ?_; rintro e W3 ⟨rfl, rfl⟩))
    exact bodyPost_ret (v := .tuple #[.int .i64 0, .int .i64 0, .int .i64 1]) (by simp [results, Tryd.results12, go_sem]) rfl ⟨rfl, M2.below⟩
  | true =>
    rcases best_cases (inSet f g) f.S 100 with h1 | ⟨p, h1, hp, _⟩
    · obtain ⟨e1, e2, e3⟩ := rich_none (g := g) hok h1
      rw [e1, e2, e3]; clear e1 e2 e3
      go_enter Tryd.func12, Tryd.ntmps12
      go_upto_region 1 with (fail)
      obtain ⟨W, hW, M⟩ := open2 w (fcells f) 32 (acells .u64 2 g) 34
      rw [hW]; clear hW
      go_wp2_with (first
        | (refine wpList_load_part rfl 32 _ rfl w.heap.size 0 rfl (fcells f) _ (M.at 0 rfl).whole Tryd.underlying32 rfl (by rw [fcells_size]; exact sizeFd) ?_)
        | (refine wpList_buildRow rfl 105 32 _ rfl (fcells f) rfl Tryd.underlying105 (by rw [fcells_size]; exact sizeFd) (by rw [fcells_size]; kernel_rfl) (by rw [fcells_size]; omega) (by rw [fcells_size]; omega) ?_)
        | (go_at_call 54; refine (checkFields1 f hf A _ _ _ (Blk.new _ _ _) (S.out.later (M.alloc _ _).below)).mono ?_; rintro e W2 ⟨rfl, hb⟩; rw [hok, errIf_true]; have M2 := (M.alloc _ _).call hb; clear hb)
        | (refine wpList_load_part rfl 32 _ rfl w.heap.size 0 rfl (fcells f) _ (M2.at 0 rfl).whole Tryd.underlying32 rfl (by rw [fcells_size]; exact sizeFd) ?_)
        | (refine wpList_load_part rfl 34 _ rfl (w.heap.size + 1) 0 rfl (acells .u64 2 g) _ (M2.at 1 rfl).whole Tryd.underlying34 rfl (by rw [acells_size]; exact sizeC) ?_)
        | (go_at_call 48; refine (bestIn_none f hok g 55 #[.pointer (some ⟨w.heap.size, 0, none⟩)] f.S h1 A _ (S.out.later M2.below)).mono ?_; rintro e W5 ⟨rfl, hb5⟩; have M5 := M2.call hb5; clear hb5)
        | (go_at_call 47; refine (codeOf_err A 6 (by omega) (by omega) _ (S.out.later M5.below)).mono ?_; rintro e W3 ⟨rfl, rfl⟩))
      exact bodyPost_ret (v := .tuple #[.int .i64 0, .int .i64 0, .int .i64 6]) (by simp [results, Tryd.results12, go_sem]) rfl ⟨rfl, M5.below⟩
    · obtain ⟨e1, e2, e3⟩ := rich_some (g := g) hok h1
      rw [e1, e2, e3]; clear e1 e2 e3
      have hp1 : (p : Int) < 100 := by omega
      obtain ⟨s1, s2⟩ := hf.S p hp
      go_enter Tryd.func12, Tryd.ntmps12
      go_upto_region 1 with (fail)
      obtain ⟨W, hW, M⟩ := open2 w (fcells f) 32 (acells .u64 2 g) 34
      rw [hW]; clear hW
      go_wp2_with (first
        | (refine wpList_load_part rfl 32 _ rfl w.heap.size 0 rfl (fcells f) _ (M.at 0 rfl).whole Tryd.underlying32 rfl (by rw [fcells_size]; exact sizeFd) ?_)
        | (refine wpList_buildRow rfl 105 32 _ rfl (fcells f) rfl Tryd.underlying105 (by rw [fcells_size]; exact sizeFd) (by rw [fcells_size]; kernel_rfl) (by rw [fcells_size]; omega) (by rw [fcells_size]; omega) ?_)
        | (go_at_call 54; refine (checkFields1 f hf A _ _ _ (Blk.new _ _ _) (S.out.later (M.alloc _ _).below)).mono ?_; rintro e W2 ⟨rfl, hb⟩; rw [hok, errIf_true]; have M2 := (M.alloc _ _).call hb; clear hb)
        | (refine wpList_load_part rfl 32 _ rfl w.heap.size 0 rfl (fcells f) _ (M2.at 0 rfl).whole Tryd.underlying32 rfl (by rw [fcells_size]; exact sizeFd) ?_)
        | (refine wpList_load_part rfl 34 _ rfl (w.heap.size + 1) 0 rfl (acells .u64 2 g) _ (M2.at 1 rfl).whole Tryd.underlying34 rfl (by rw [acells_size]; exact sizeC) ?_)
        | (go_at_call 48; refine (bestIn_some f hok g 55 w.heap.size f.S p h1 (fun w' => Blk w' w.heap.size (fcells f) 32) (fun _ _ h hb => h.later hb) (fun k w' hk h => rich_closure f hf k (isCell_lt hk) _ w' h) (enters_of Tryd.func55 (by kernel_rfl) rfl) _ (M2.at 0 rfl)).mono ?_; rintro e W5 ⟨rfl, hb5⟩; have M5 := M2.call hb5; clear hb5; have cP := (M5.at 0 rfl).cell (fcells_S f p hp)))
      go_quiet (fail)
      go_wp2_with fail
      exact bodyPost_ret (v := .tuple #[.int .i64 p, .int .i64 (f.S p), .int .i64 0]) (by simp [results, Tryd.results12, go_sem]) rfl ⟨rfl, (M5.drewN nq).below⟩
end Go.Proofs.YtcaeihhdapghkaaDoor
