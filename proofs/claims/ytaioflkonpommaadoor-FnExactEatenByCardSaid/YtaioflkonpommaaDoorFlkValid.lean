/-
  ValidFlocks: the model's, the program's.
-/
import Derived.Test.YtaioflkonpommaaDoorFlkFit
import Derived.Test.YtaioflkonpommaaDoorCoreA
namespace Go.Proofs.YtaioflkonpommaaDoor
open Go Go.RowKit Go.WideShapes Go.ChangeShapes

theorem Mem.of_two {w0 w : World} {e1 e2 : Ent} (H : Mem w0 w [e1, e2]) : Mem w0 w [e1] :=
  ⟨H.below, fun i e h => H.blk i e (by
    cases i with
    | zero => simpa using h
    | succ i => simp at h), fun i j e e' h h' hij => by
    cases i <;> cases j <;> simp_all⟩
set_option maxRecDepth 100000 in
set_option maxHeartbeats 2000000 in
theorem implValidFlocks (f : Fd) (hf : f.Wf) (n : Nat) (hn : n ≤ 2 ^ 40) (F : Nat → Nat → Int) (hF : WfS ksFlock n F) (d c : Nat) (w : World) (T : TabAt w) (I : InS w d 0 n ksFlock F) :
    Calls Tryd.prog 69 #[.agg (fcells f), .slice (some ⟨d, 0, none⟩) n c] w fun e w' => e = .returned (.bool (okFlocks f n F)) ∧ Below w.heap.size w w' := by
  cases hok : okF f with
  | false =>
    have hr : okFlocks f n F = false := by simp [okFlocks, hok]
    rw [hr]; clear hr
    go_enter Tryd.func69, Tryd.ntmps69
    go_upto_region 1 with (fail)
    obtain ⟨W, hW, M⟩ := open1 w (fcells f) 30
    rw [hW]; clear hW
    go_wp2_with (first
      | (refine wpList_load_part rfl 30 _ rfl w.heap.size 0 rfl (fcells f) _ (M.at 0 rfl).whole Tryd.underlying30 rfl (by rw [fcells_size]; exact sizeFd) ?_)
      | (go_at_call 85; refine (validField_any f hf _).mono ?_; rintro e W2 ⟨rfl, hb⟩; rw [hok]; have M2 := M.call hb))
    go_ret
    exact ⟨rfl, M2.below⟩
  | true =>
    have HT := Lib.hid T
    have HI := Lib.hid I
    have HF := Lib.hid hF
    clear T I hF
    by_cases h12 : 12 < n
    · have hr : okFlocks f n F = false := by simp [okFlocks]; omega
      rw [hr]; clear hr
      go_enter Tryd.func69, Tryd.ntmps69
      go_upto_region 1 with (fail)
      obtain ⟨W, hW, M⟩ := open1 w (fcells f) 30
      rw [hW]; clear hW
      go_wp2_with (first
        | (refine wpList_load_part rfl 30 _ rfl w.heap.size 0 rfl (fcells f) _ (M.at 0 rfl).whole Tryd.underlying30 rfl (by rw [fcells_size]; exact sizeFd) ?_)
        | (go_at_call 85; refine (validField_any f hf _).mono ?_; rintro e W2 ⟨rfl, hb⟩; rw [hok]; have M2 := M.call hb))
      go_ret
      exact ⟨rfl, M2.below⟩
    · have hr : okFlocks f n F = allTo n (fun i => flockOk f (F i)) := by simp [okFlocks, hok]; omega
      rw [hr]; clear hr
      go_enter Tryd.func69, Tryd.ntmps69
      go_upto_region 1 with (fail)
      obtain ⟨W, hW, M⟩ := open1 w (fcells f) 30
      rw [hW]; clear hW
      go_wp2_with (first
        | (refine wpList_load_part rfl 30 _ rfl w.heap.size 0 rfl (fcells f) _ (M.at 0 rfl).whole Tryd.underlying30 rfl (by rw [fcells_size]; exact sizeFd) ?_)
        | (go_at_call 85; refine (validField_any f hf _).mono ?_; rintro e W2 ⟨rfl, hb⟩; rw [hok]; have M2 := Lib.hid (M.call hb); clear hb))
      clear M
      go_loopw [17] (fun i wr => ∃ k : Nat, k ≤ n ∧ i = .int .i64 k ∧ Hid (Mem w wr [⟨w.heap.size, fcells f, 30⟩]) ∧ Hid (∀ i, i < k → flockOk f (F i) = true)) (fun i _ => n - (intOf i).toNat)
      case atStart => exact ⟨0, by omega, rfl, M2, Lib.hid (fun i hi => by omega)⟩
      case round =>
        obtain ⟨k, hk, rfl, hM, hall⟩ := hrel
        by_cases hlt : k < n
        · have hc : FlkAt wr d (k * 6) (F k) := flkAt_of (by have h := HI.out.later hM.out.below k hlt; rw [Nat.zero_add] at h; exact h)
          have hr := HF.out.row hlt
          obtain ⟨c0, c1, c2, c3, c4, c5⟩ := hc
          have q : fitOk f (F k) = flockOk f (F k) := fit_flockOk hok (F k)
          have hload : Hid (∀ cs t, (((wr.alloc (.cells cs t))).rangeAt w.heap.size 0 (fcells f).toList)) := Lib.hid (fun cs t => ((hM.out.alloc cs t).at 0 rfl).whole)
          cases q2 : flockOk f (F k) with
          | true =>
            go_wp2_with (first
              | (refine wpList_load_part rfl 30 _ rfl w.heap.size 0 rfl (fcells f) _ (hload.out _ _) Tryd.underlying30 rfl (by rw [fcells_size]; exact sizeFd) ?_)
              | (go_at_call 86; refine (fits_any (F k) hr f hf _ (HT.out.later (hM.out.alloc _ _).below)).mono ?_; rintro e W3 ⟨rfl, hb3⟩; rw [q, q2]; have M3 := Lib.hid (Mem.of_two ((hM.out.alloc _ _).call hb3)); clear hb3))
            go_roundw
            case rel => exact ⟨k + 1, by omega, by go_num, M3, Lib.hid (upto_succ hall.out q2)⟩
            case measure => simp [intOf]; omega
          | false =>
            have hx : Hid (allTo n (fun i => flockOk f (F i)) = false) := Lib.hid (allTo_false hlt q2)
            go_wp2_with (first
              | (refine wpList_load_part rfl 30 _ rfl w.heap.size 0 rfl (fcells f) _ (hload.out _ _) Tryd.underlying30 rfl (by rw [fcells_size]; exact sizeFd) ?_)
              | (go_at_call 86; refine (fits_any (F k) hr f hf _ (HT.out.later (hM.out.alloc _ _).below)).mono ?_; rintro e W3 ⟨rfl, hb3⟩; rw [q, q2]; have M3 := Lib.hid (Mem.of_two ((hM.out.alloc _ _).call hb3)); clear hb3))
            go_ret
            exact ⟨by rw [hx.out]; rfl, M3.out.below⟩
        · obtain rfl : k = n := by omega
          have hx : Hid (allTo k (fun i => flockOk f (F i)) = true) := Lib.hid (allTo_iff.2 hall.out)
          go_wp2_with fail
          go_ret
          exact ⟨by rw [hx.out]; rfl, hM.out.below⟩
end Go.Proofs.YtaioflkonpommaaDoor
