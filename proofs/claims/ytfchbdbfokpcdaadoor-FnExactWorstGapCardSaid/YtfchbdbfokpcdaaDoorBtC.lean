/-
  Valid beats: checkBeats, ValidBeat.
-/
import Derived.Test.YtfchbdbfokpcdaaDoorBtF
import Derived.Test.YtfchbdbfokpcdaaDoorChk2
namespace Go.Proofs.YtfchbdbfokpcdaaDoor
open Go Go.RowKit

/-- Beats in a slice of beats. -/
structure BtsAt (w : World) (bb m : Nat) (B N C : Nat → Nat) (G : Nat → Nat → Int) : Prop where
  at' : ∀ i, i < m → w.cell? ⟨bb, i, none⟩ = some (.slice (some ⟨B i, 0, none⟩) (N i) (C i))
  num : ∀ i, i < m → InH w (B i) 0 (N i) (G i)
  len : ∀ i, i < m → N i ≤ 2 ^ 40
  fit : ∀ i, i < m → WfH (N i) (G i)
theorem BtsAt.later {w w' : World} {bb m : Nat} {B N C : Nat → Nat} {G : Nat → Nat → Int} (h : BtsAt w bb m B N C G) (hb : Below w.heap.size w w') : BtsAt w' bb m B N C G :=
  ⟨fun i hi => cell_later (h.at' i hi) hb, fun i hi => (h.num i hi).later hb, h.len, h.fit⟩
def beatsOk (f : Fd) (m : Nat) (N : Nat → Nat) (G : Nat → Nat → Int) : Bool := okF f && allTo m (fun i => beatOk f (N i) (G i))
set_option maxRecDepth 100000 in
set_option maxHeartbeats 4000000 in
theorem checkBeats_any (f : Fd) (hf : f.Wf) (bb m c : Nat) (hm : m ≤ 10) (B N C : Nat → Nat) (G : Nat → Nat → Int) (A : Nat → Addr) (w : World) (H : BtsAt w bb m B N C G) (S0 : Sent1 w A) :
    Calls Tryd.prog 31 #[.agg (fcells f), .slice (some ⟨bb, 0, none⟩) m c] w fun e w' => e = .returned (errIf A 1 (beatsOk f m N G)) ∧ Below w.heap.size w w' := by
  have S : Hid (Sent1 w A) := Lib.hid S0
  have HH := Lib.hid H
  clear S0 H
  have hif := isIfaceErr
  cases hok : okF f with
  | false =>
    have hno : Hid (beatsOk f m N G = false) := Lib.hid (by unfold beatsOk; rw [hok]; rfl)
    rw [hno.out, errIf_false]
    go_enter Tryd.func31, Tryd.ntmps31
    go_upto_region 1 with (fail)
    obtain ⟨W, hW, M⟩ := open1 w (fcells f) 31
    rw [hW]; clear hW
    go_wp2_with (first
      | (refine wpList_load_part rfl 31 _ rfl w.heap.size 0 rfl (fcells f) _ (M.at 0 rfl).whole Tryd.underlying31 rfl (by rw [fcells_size]; exact sizeFd) ?_)
      | (refine wpList_buildRow rfl 100 31 _ rfl (fcells f) rfl Tryd.underlying100 (by rw [fcells_size]; exact sizeFd) (by rw [fcells_size]; kernel_rfl) (by rw [fcells_size]; omega) (by rw [fcells_size]; omega) ?_)
      | (go_at_call 47; refine (checkFieldsV f hf A _ _ _ (Blk.new _ _ _) (S.out.later (M.alloc _ _).below)).mono ?_; rintro e W2 ⟨rfl, hb⟩; rw [hok, errIf_false]; have M2 := (M.alloc _ _).call hb))
    go_ret
    exact ⟨rfl, M2.below⟩
  | true =>
    go_enter Tryd.func31, Tryd.ntmps31
    go_upto_region 1 with (fail)
    obtain ⟨W, hW, M⟩ := open1 w (fcells f) 31
    rw [hW]; clear hW
    go_wp2_with (first
      | (refine wpList_load_part rfl 31 _ rfl w.heap.size 0 rfl (fcells f) _ (M.at 0 rfl).whole Tryd.underlying31 rfl (by rw [fcells_size]; exact sizeFd) ?_)
      | (refine wpList_buildRow rfl 100 31 _ rfl (fcells f) rfl Tryd.underlying100 (by rw [fcells_size]; exact sizeFd) (by rw [fcells_size]; kernel_rfl) (by rw [fcells_size]; omega) (by rw [fcells_size]; omega) ?_)
      | (go_at_call 47; refine (checkFieldsV f hf A _ _ _ (Blk.new _ _ _) (S.out.later (M.alloc _ _).below)).mono ?_; rintro e W2 ⟨rfl, hb⟩; rw [hok, errIf_true]; have M2 := Lib.hid (show Mem w W2 [⟨w.heap.size, fcells f, 31⟩] from ⟨((M.alloc _ _).call hb).below, fun i e h => ((M.alloc _ _).call hb).blk i e (by rw [List.getElem?_append_left (by have := (List.getElem?_eq_some_iff.1 h).1; exact this)]; exact h), fun i j e e' h h' hij => by
          match i, j, h, h' with
          | 0, 0, _, _ => exact absurd rfl hij
          | 0, k + 1, _, h' => simp at h'
          | k + 1, _, h, _ => simp at h⟩); clear hb))
    clear M
    go_loopw [16] (fun i wr => ∃ k : Nat, k ≤ m ∧ i = .int .i64 k ∧ Hid (Mem w wr [⟨w.heap.size, fcells f, 31⟩]) ∧ Hid (∀ j, j < k → beatOk f (N j) (G j) = true)) (fun i _ => m - (intOf i).toNat)
    case atStart => exact ⟨0, by omega, rfl, M2, Lib.hid (fun i hi => by omega)⟩
    case round =>
      clear M2
      obtain ⟨k, hk, rfl, hM, hall⟩ := hrel
      by_cases hlt : k < m
      · have HH2 := HH.out.later hM.out.below
        have d0 := HH2.at' k hlt
        have J := Lib.hid (HH2.num k hlt)
        have hl := HH2.len k hlt
        have hw := Lib.hid (HH2.fit k hlt)
        clear HH2
        obtain ⟨bk, hbk⟩ : ∃ x, B k = x := ⟨_, rfl⟩
        obtain ⟨nk, hnk⟩ : ∃ x, N k = x := ⟨_, rfl⟩
        obtain ⟨ck, hck⟩ : ∃ x, C k = x := ⟨_, rfl⟩
        have HN := Lib.hid hnk
        rw [hbk, hnk, hck] at d0
        rw [hbk, hnk] at J
        rw [hnk] at hl hw
        clear hbk hnk hck
        obtain ⟨q, hq⟩ : ∃ q, beatOk f nk (G k) = q := ⟨_, rfl⟩
        have HQ := Lib.hid hq
        clear hq
        cases q with
        | true =>
          go_wp2_with (first
            | (refine wpList_load_part rfl 31 _ rfl w.heap.size 0 rfl (fcells f) _ (hM.out.at 0 rfl).whole Tryd.underlying31 rfl (by rw [fcells_size]; exact sizeFd) ?_)
            | (go_at_call 48; refine (fits_any f hf hok nk hl (G k) hw.out bk ck _ J.out).mono ?_; rintro e W4 ⟨rfl, hb⟩; rw [HQ.out]; have M4 := Lib.hid (hM.out.call hb); clear hb))
          go_roundw
          case rel => exact ⟨k + 1, by omega, by go_num, M4, Lib.hid (upto_succ hall.out (by rw [HN.out]; exact HQ.out))⟩
          case measure => simp [intOf]; omega
        | false =>
          have hno : Hid (beatsOk f m N G = false) := Lib.hid (by unfold beatsOk; rw [allTo_false hlt (by rw [HN.out]; exact HQ.out), Bool.and_false])
          go_wp2_with (first
            | (refine wpList_load_part rfl 31 _ rfl w.heap.size 0 rfl (fcells f) _ (hM.out.at 0 rfl).whole Tryd.underlying31 rfl (by rw [fcells_size]; exact sizeFd) ?_)
            | (go_at_call 48; refine (fits_any f hf hok nk hl (G k) hw.out bk ck _ J.out).mono ?_; rintro e W4 ⟨rfl, hb⟩; rw [HQ.out]; have M4 := hM.out.call hb; have v1 := (S.out.later M4.below).v1; clear hb))
          go_ret
          exact ⟨by rw [hno.out]; rfl, M4.below⟩
      · obtain rfl : k = m := by omega
        have hyes : Hid (beatsOk f k N G = true) := Lib.hid (by unfold beatsOk; rw [hok, allTo_iff.2 hall.out]; rfl)
        go_wp2_with fail
        go_ret
        exact ⟨by rw [hyes.out]; rfl, hM.out.below⟩
theorem beatsOk_one (f : Fd) (n : Nat) (g : Nat → Int) : beatsOk f 1 (fun _ => n) (fun _ => g) = (okF f && beatOk f n g) := by simp [beatsOk, allTo]
theorem btsAt_one {w : World} {bb b n c : Nat} {g : Nat → Int} {t : TypeId} (hB : Blk w bb #[.slice (some ⟨b, 0, none⟩) n c] t) (I : InH w b 0 n g) (hn : n ≤ 2 ^ 40) (hg : WfH n g) : BtsAt w bb 1 (fun _ => b) (fun _ => n) (fun _ => c) (fun _ => g) :=
  ⟨fun i hi => by obtain rfl : i = 0 := by omega
                  exact hB.cell (i := 0) rfl, fun _ _ => I, fun _ _ => hn, fun _ _ => hg⟩
theorem errIf_nil (A : Nat → Addr) (q : Bool) : errIf A 1 q = .nilIface ∧ q = true ∨ (∃ a, errIf A 1 q = errVal a) ∧ q = false := by
  cases q with
  | true => exact .inl ⟨rfl, rfl⟩
  | false => exact .inr ⟨⟨_, rfl⟩, rfl⟩
end Go.Proofs.YtfchbdbfokpcdaaDoor
