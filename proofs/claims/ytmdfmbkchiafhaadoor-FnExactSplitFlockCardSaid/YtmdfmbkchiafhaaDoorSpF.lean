/-
  SplitFlock: the model's and the program's.
-/
import Derived.Test.YtmdfmbkchiafhaaDoorMvF
import Derived.Test.YtmdfmbkchiafhaaDoorRelR
import Derived.Test.YtmdfmbkchiafhaaDoorRelA
import Derived.Test.YtmdfmbkchiafhaaDoorCoreB
namespace Go.Proofs.YtmdfmbkchiafhaaDoor
open Go Go.RowKit

/-- The flocks, one of them once more. -/
def againF (F : Nat → Nat → Int) (n k : Nat) : Nat → Nat → Int := fun i j => if i = n then F k j else F i j
theorem again_cells (F : Nat → Nat → Int) (n k : Nat) : (scells ksFlock n F).toList ++ (srow ksFlock F k).toList = (scells ksFlock (n + 1) (againF F n k)).toList := by
  have h : scells ksFlock n F ++ srow ksFlock F k = scells ksFlock (n + 1) (againF F n k) := by
    apply scells_ext
    · rw [Array.size_append, scells_size, srow_size]
      show n * 6 + 6 = (n + 1) * 6
      omega
    · intro i j hi hj
      have hj6 : j < 6 := hj
      show (scells ksFlock n F ++ srow ksFlock F k)[i * 6 + j]? = _
      have hs : (scells ksFlock n F).size = n * 6 := scells_size _ _ _
      by_cases e : i < n
      · rw [Array.getElem?_append_left (by omega)]
        have h1 := scells_get ksFlock n F i j e hj
        have e2 : sget ksFlock (againF F n k) i j = sget ksFlock F i j := by unfold sget againF; rw [if_neg (by omega)]
        rw [e2]; exact h1
      · obtain rfl : i = n := by omega
        rw [Array.getElem?_append_right (by omega), hs, show i * 6 + j - i * 6 = j by omega, srow_get ksFlock F k j hj]
        unfold sget againF
        rw [if_pos rfl]
  rw [← h, Array.toList_append]
/-- The flocks, one split. -/
def sfRow (F : Nat → Nat → Int) (n : Nat) (i x : Int) : Nat → Nat → Int := setAtF (setAtF (againF F n i.toNat) i.toNat 1 (F i.toNat 1 - x)) n 1 x
def sfCode (f : Fd) (n : Nat) (F : Nat → Nat → Int) (i x : Int) : Int := if idxCode f n F i = 0 then (if inB x 0 (F i.toNat 1) then (if n = 12 then 3 else 0) else 2) else idxCode f n F i
def sfN (f : Fd) (n : Nat) (F : Nat → Nat → Int) (i x : Int) : Nat := if sfCode f n F i x = 0 then n + 1 else 0
theorem sfN_le (f : Fd) (n : Nat) (F : Nat → Nat → Int) (i x : Int) (hn : n ≤ 1048576) : sfN f n F i x ≤ 2 ^ 40 := by unfold sfN; split <;> omega
theorem ok_birdsF {f : Fd} {n : Nat} {F : Nat → Nat → Int} (h : okFlocks f n F = true) {i : Nat} (hi : i < n) : 0 ≤ F i 1 ∧ F i 1 ≤ 200 := by
  simp only [okFlocks, Bool.and_eq_true, decide_eq_true_eq] at h
  have := allTo_iff.1 h.1.2 i hi
  simp only [flockOk, plainOk, Bool.and_eq_true, inB_iff] at this
  exact this.1.1.1.1.1
theorem ok_twelve {f : Fd} {n : Nat} {F : Nat → Nat → Int} (h : okFlocks f n F = true) : n ≤ 12 := by
  simp only [okFlocks, Bool.and_eq_true, decide_eq_true_eq] at h; exact h.2
/-- How the code comes about. -/
theorem sf_cases (f : Fd) (n : Nat) (F : Nat → Nat → Int) (i x : Int) : (idxCode f n F i ≠ 0 ∧ sfCode f n F i x = idxCode f n F i) ∨ (∃ k : Nat, i = k ∧ k < n ∧ idxCode f n F i = 0 ∧ okFlocks f n F = true ∧ ((inB x 0 (F k 1) = false ∧ sfCode f n F i x = 2) ∨ (inB x 0 (F k 1) = true ∧ n = 12 ∧ sfCode f n F i x = 3) ∨ (inB x 0 (F k 1) = true ∧ n < 12 ∧ sfCode f n F i x = 0))) := by
  rcases idx_cases f n F i with ⟨h, ho, h2⟩ | ⟨h, _⟩ | ⟨h, _⟩
  · have hb := inB_iff.1 h2
    obtain ⟨k, rfl⟩ : ∃ k : Nat, i = k := ⟨i.toNat, by omega⟩
    refine .inr ⟨k, rfl, by omega, h, ho, ?_⟩
    have h12 := ok_twelve ho
    have e : sfCode f n F (k : Int) x = (if inB x 0 (F k 1) then (if n = 12 then 3 else 0) else 2) := by unfold sfCode; rw [if_pos h, Int.toNat_natCast]
    cases hx : inB x 0 (F k 1) with
    | false => exact .inl ⟨rfl, by rw [e, hx]; rfl⟩
    | true =>
      by_cases hn : n = 12
      · exact .inr (.inl ⟨rfl, hn, by rw [e, hx, if_pos rfl, if_pos hn]⟩)
      · exact .inr (.inr ⟨rfl, by omega, by rw [e, hx, if_pos rfl, if_neg hn]⟩)
  · exact .inl ⟨by rw [h]; decide, by unfold sfCode; rw [if_neg (by rw [h]; decide)]⟩
  · exact .inl ⟨by rw [h]; decide, by unfold sfCode; rw [if_neg (by rw [h]; decide)]⟩
theorem owns_belowF {w w' : World} {base : Nat} {e : TypeId} {size : Nat} {v : Value} {n : Nat} {xs : List Value} (h : w.ownsRow base e size v n xs) (hb : Below w.heap.size w w') : w'.ownsRow base e size v n xs :=
  ⟨h.1, h.2.imp id fun ⟨g, cap, cur, h1, h2, h3, h4⟩ => ⟨g, cap, cur, h1, h2, (hb.block g (Array.getElem?_eq_some_iff.1 h3).1).trans h3, h4⟩⟩
theorem own_outF {W : World} {base : Nat} {e : TypeId} {size : Nat} {v : Value} {k : Nat} {xs : List Value} (h : W.ownsRow base e size v k xs) : ∃ p c, v = .slice p k c := by
  rcases h.2 with ⟨rfl, h0⟩ | ⟨g, cap, _, rfl, _⟩
  · exact ⟨none, 0, by rw [h0]⟩
  · exact ⟨_, cap, rfl⟩
set_option maxHeartbeats 2000000 in
set_option maxRecDepth 100000 in
theorem Fclone_own (n : Nat) (hn : n ≤ 2 ^ 40) (F : Nat → Nat → Int) (b c : Nat) (w : World) (I : InS w b 0 n ksFlock F) :
    Calls Tryd.prog 68 #[.slice (some ⟨b, 0, none⟩) n c] w fun e w' => ∃ v, e = .returned v ∧ w'.ownsRow w.heap.size 103 6 v n (scells ksFlock n F).toList ∧ Below w.heap.size w w' := by
  have HI := Lib.hid I
  clear I
  have q22 : ∀ (w : World) (a : Option Addr) (n c n' c' : Nat), (binOp .eql 55 (.slice a n c) (.slice none n' c')).run Tryd.prog w = .ok (.bool a.isNone) w := fun w a n c n' c' => Lib.run_eql_slice_nil w _ _ a n c n' c' Tryd.underlying55
  obtain ⟨i0, hi, hz0, hz1, hz2⟩ := info_parts Finfo
  go_enter Tryd.func68, Tryd.ntmps68
  go_wp2_with (at_builtin; refine wpList_append_own _ rfl _ _ 55 rfl w.heap.size 103 i0 (.agg #[.int .i16 0, .int .i16 0, .int .i16 0, .int .i16 0, .int .i16 0, .int .i8 0]) 6 12 Tryd.underlying55 hi hz0 hz1 hz2 rfl (by decide) _ _ _ rfl (World.ownsRow_made w #[] 0 (Nat.le_refl _) (Nat.zero_le _) (by simp)) ⟨b, 0, none⟩ n c (scells ksFlock n F).toList rfl ?qc1 ?qc2 ?qc3 ?qc4 ?qc5 ?qc6 ?_)
  case qc1 => exact Slen _ _ _
  case qc2 =>
    intro j u hj
    exact Lib.cell?_alloc_some _ (Snews (by decide) HI.out j u hj)
  case qc3 => exact Sone _ _ _
  case qc4 => rw [Nat.zero_add]; unfold maxLen; omega
  case qc5 => rw [Nat.zero_add]; omega
  case qc6 => simp
  intro v' w1 hown hgrow hnil
  go_wp2
  go_ret
  (try simp only [Nat.zero_add, List.nil_append] at hown)
  exact ⟨v', rfl, hown, ((Below.refl _ w).alloc (Nat.le_refl _) _).grown hgrow (by simp) (by intro k hk; simp [Value.ownBlock] at hk; omega)⟩
set_option maxRecDepth 100000 in
set_option maxHeartbeats 8000000 in
theorem specSplitFlock (f : Fd) (hf : f.Wf) (n : Nat) (hn : n ≤ 2 ^ 40) (F : Nat → Nat → Int) (hF : WfS ksFlock n F) (i : Int) (x : Int) (hxb : -9223372036854775808 ≤ x ∧ x ≤ 9223372036854775807) (b cap : Nat) (w : World) (I : InS w b 0 n ksFlock F) :
    Calls Tryd.prog 34 #[.agg (fcells f), .slice (some ⟨b, 0, none⟩) n cap, .int .i64 i, .int .i64 x] w fun e w' => ∃ p c', e = .returned (.tuple #[.slice p (sfN f n F i x) c', .int .i64 (sfCode f n F i x)]) ∧ SV ksFlock w.heap.size w'.heap.size w' p (sfN f n F i x) (sfRow F n i x) ∧ SW ksFlock 103 w.heap.size w'.heap.size w' p (sfN f n F i x) ∧ Below w.heap.size w w' := by
  have HI := Lib.hid I
  clear I
  rcases sf_cases f n F i x with ⟨hi0, hk⟩ | ⟨k, rfl, hkn, hi0, ho, hrest⟩
  · have hN : sfN f n F i x = 0 := by unfold sfN; rw [hk, if_neg hi0]
    rw [hN, hk]
    obtain ⟨k, hk0⟩ : ∃ k, idxCode f n F i = k := ⟨_, rfl⟩
    have HC := Lib.hid hk0
    rw [hk0] at hi0 ⊢
    have hkb : (k != 0) = true := by simpa using hi0
    have hkc : (k == 0) = false := by simpa using hi0
    clear hk hN hk0 hi0
    go_enter Tryd.func34, Tryd.ntmps34
    go_upto_region 1 with (fail)
    obtain ⟨W, hW, M⟩ := open1 w (fcells f) 34
    rw [hW]; clear hW
    go_wp2_with (go_at_call 63; refine (l02Index_any f hf n hn F hF _ w.heap.size b cap _ (M.at 0 rfl) (HI.out.later M.below)).mono ?_; rintro e w9 ⟨rfl, rfl⟩; rw [HC.out])
    go_ret2
    exact ⟨_, _, rfl, .inl rfl, .inl rfl, (M.alloc #[] 103).below⟩
  have HC := Lib.hid hi0
  have hv0 := ok_birdsF ho hkn
  obtain ⟨v, hv⟩ : ∃ v, F k 1 = v := ⟨_, rfl⟩
  have HV := Lib.hid hv
  rw [hv] at hv0 hrest
  obtain ⟨hv1, hv2⟩ := hv0
  have hwv : IntKind.i64.wrap v = v := IntWalk.i64_in _ (by omega)
  clear hi0 hv
  rcases hrest with ⟨hx, hk⟩ | ⟨hx, hn12, hk⟩ | ⟨hx, hn12, hk⟩
  · have hN : sfN f n F (k : Int) x = 0 := by unfold sfN; rw [hk]; rfl
    rw [hN, hk]
    have HX := Lib.hid hx
    clear hk hN hx ho
    go_enter Tryd.func34, Tryd.ntmps34
    go_upto_region 1 with (fail)
    obtain ⟨W, hW, M⟩ := open1 w (fcells f) 34
    rw [hW]; clear hW
    have c1 : W.cell? ⟨b, k * 6 + 1, none⟩ = some (.int .i16 v) := by
      have h := (HI.out.later M.below) k hkn 1 _ (by rw [Array.getElem?_toList]; exact srow_get ksFlock F k 1 (by decide))
      rw [Nat.zero_add] at h
      rw [← HV.out]; exact h
    go_wp2_with (first
      | (go_at_call 63; refine (l02Index_any f hf n hn F hF _ w.heap.size b cap _ (M.at 0 rfl) (HI.out.later M.below)).mono ?_; rintro e w9 ⟨rfl, rfl⟩; rw [HC.out])
      | (go_at_call 70; refine (l00In_any _ _ _ _).mono ?_; rintro e w9 ⟨rfl, rfl⟩; rw [HX.out]))
    go_ret2
    exact ⟨_, _, rfl, .inl rfl, .inl rfl, (M.alloc #[] 103).below⟩
  · have hN : sfN f n F (k : Int) x = 0 := by unfold sfN; rw [hk]; rfl
    rw [hN, hk]
    have HX := Lib.hid hx
    have hn3 : (n : Int) = 12 := by omega
    clear hk hN hx ho hn12
    go_enter Tryd.func34, Tryd.ntmps34
    go_upto_region 1 with (fail)
    obtain ⟨W, hW, M⟩ := open1 w (fcells f) 34
    rw [hW]; clear hW
    have c1 : W.cell? ⟨b, k * 6 + 1, none⟩ = some (.int .i16 v) := by
      have h := (HI.out.later M.below) k hkn 1 _ (by rw [Array.getElem?_toList]; exact srow_get ksFlock F k 1 (by decide))
      rw [Nat.zero_add] at h
      rw [← HV.out]; exact h
    go_wp2_with (first
      | (go_at_call 63; refine (l02Index_any f hf n hn F hF _ w.heap.size b cap _ (M.at 0 rfl) (HI.out.later M.below)).mono ?_; rintro e w9 ⟨rfl, rfl⟩; rw [HC.out])
      | (go_at_call 70; refine (l00In_any _ _ _ _).mono ?_; rintro e w9 ⟨rfl, rfl⟩; rw [HX.out]))
    go_ret2
    exact ⟨_, _, rfl, .inl rfl, .inl rfl, (M.alloc #[] 103).below⟩
  · have hN : sfN f n F (k : Int) x = n + 1 := by unfold sfN; rw [hk]; rfl
    rw [hN, hk]
    have HX := Lib.hid hx
    have hxx := inB_iff.1 hx
    have hn3 : ¬ (n : Int) = 12 := by omega
    have hwx : IntKind.i16.wrap x = x := IntWalk.i16_in _ (by omega)
    have hwd : IntKind.i16.wrap (v - x) = v - x := IntWalk.i16_in _ (by omega)
    have hpos : 0 < n := by omega
    obtain ⟨i0, hi, hz0, hz1, hz2⟩ := info_parts Finfo
    clear hk hN hx ho
    go_enter Tryd.func34, Tryd.ntmps34
    go_upto_region 1 with (fail)
    obtain ⟨W, hW, M⟩ := open1 w (fcells f) 34
    rw [hW]; clear hW
    have c1 : W.cell? ⟨b, k * 6 + 1, none⟩ = some (.int .i16 v) := by
      have h := (HI.out.later M.below) k hkn 1 _ (by rw [Array.getElem?_toList]; exact srow_get ksFlock F k 1 (by decide))
      rw [Nat.zero_add] at h
      rw [← HV.out]; exact h
    go_upto_region 8 with (first
      | (go_at_call 63; refine (l02Index_any f hf n hn F hF _ w.heap.size b cap _ (M.at 0 rfl) (HI.out.later M.below)).mono ?_; rintro e w9 ⟨rfl, rfl⟩; rw [HC.out])
      | (go_at_call 70; refine (l00In_any _ _ _ _).mono ?_; rintro e w9 ⟨rfl, rfl⟩; rw [HX.out]))
    clear c1 hn3 hwv
    refine wp_region_rel_tail 8 (DL [dP (fun v lo _ w9 => v = .slice (some ⟨lo, 0, none⟩) 0 0), dV (.slice (some ⟨b, 0, none⟩) n cap), dP (fun v lo _ w9 => w9.ownsRow lo 103 6 v n (scells ksFlock n F).toList), dV (.slice (some ⟨b, 0, none⟩) n cap), dV (.int .i64 (k : Int)), dV (.pointer (some ⟨b, 0 + k * 6, none⟩)), dV (.agg (srow ksFlock F k)), dP (fun v lo _ w9 => v = .slice (some ⟨lo, 0, none⟩) 1 1 ∧ Blk w9 lo (srow ksFlock F k) 103)]) (fun w' => Mem w w' [⟨w.heap.size, fcells f, 34⟩]) (by kernel_rfl) (by kernel_rfl) grows_mem
      (stays_DL (fun d hd => by
        simp only [List.mem_cons, List.mem_nil_iff, or_false] at hd
        rcases hd with rfl | rfl | rfl | rfl | rfl | rfl | rfl | rfl <;> first | exact stay_P | exact stay_V)) M.drew ?_
    refine rel_runP _ rfl rfl (fun w9 _ => ⟨.slice (some ⟨w9.heap.size, 0, none⟩) 0 0, w9.alloc (.cells #[] 103), by simp [execOp, go_sem], (Below.refl _ _).alloc (Nat.le_refl _) _, fun _ _ => rfl⟩) (fun v0 lo0 hi0 _ ⟨_, _, hv9⟩ => ?_)
    subst hv9
    simp only [Act.put, List.setIfInBounds_toArray, List.set_cons_zero, List.set_cons_succ]
    refine rel_val _ rfl rfl (fun _ _ => rfl) (fun _ => ?_)
    simp only [Act.put, List.setIfInBounds_toArray, List.set_cons_zero, List.set_cons_succ]
    refine rel_append_new _ _ 55 rfl 103 i0 (.agg #[.int .i16 0, .int .i16 0, .int .i16 0, .int .i16 0, .int .i16 0, .int .i8 0]) 6 12 Tryd.underlying55 hi hz0 hz1 hz2 rfl (by decide) ⟨lo0, 0, none⟩ rfl ⟨b, 0, none⟩ n cap (scells ksFlock n F).toList rfl (Slen _ _ _) (fun w9 h9 => Snews (by decide) (HI.out.later h9.below)) hpos (by unfold maxLen; omega) (by omega) rfl rfl (fun v2 lo2 hi2 _ _ => ?_)
    simp only [Act.put, List.setIfInBounds_toArray, List.set_cons_zero, List.set_cons_succ]
    refine rel_val _ rfl rfl (fun _ _ => rfl) (fun _ => ?_)
    simp only [Act.put, List.setIfInBounds_toArray, List.set_cons_zero, List.set_cons_succ]
    refine rel_val _ rfl rfl (fun _ _ => rfl) (fun _ => ?_)
    simp only [Act.put, List.setIfInBounds_toArray, List.set_cons_zero, List.set_cons_succ]
    refine rel_index 55 103 _ _ rfl b 0 n cap 6 k rfl rfl hkn Tryd.underlying55 (by kernel_rfl) rfl rfl (fun _ => ?_)
    simp only [Act.put, List.setIfInBounds_toArray, List.set_cons_zero, List.set_cons_succ]
    refine rel_load 103 _ rfl (b) (0 + k * 6) rfl (srow ksFlock F k) _ rfl rfl (fun w' hw' => InS.elem (ks := ksFlock) HI.out (by decide) hw'.below hkn) Tryd.underlying103 rfl (by rw [srow_size]; kernel_rfl) (fun _ => ?_)
    simp only [Act.put, List.setIfInBounds_toArray, List.set_cons_zero, List.set_cons_succ]
    refine rel_runP _ rfl rfl (fun w9 _ => ⟨.slice (some ⟨w9.heap.size, 0, none⟩) 1 1, w9.alloc (.cells (srow ksFlock F k) 103), by simp [execOp, Act.eval, go_sem, srow, List.range_succ, sget], (Below.refl _ _).alloc (Nat.le_refl _) _, fun w8 hb8 => ⟨rfl, (Blk.new w9 (srow ksFlock F k) 103).later hb8⟩⟩) (fun v4 lo4 hi4 _ ⟨_, _, hv4⟩ => ?_)
    obtain ⟨rfl, _⟩ := hv4
    simp only [Act.put, List.setIfInBounds_toArray, List.set_cons_zero, List.set_cons_succ]
    refine rel_nil (fun W6 inv => ?_)
    have M6 := inv.cls
    obtain ⟨g1, _, _, hO2⟩ := inv.fact 2 _ rfl
    obtain ⟨_, _, _, h4⟩ := inv.fact 7 _ rfl
    have B4 := h4.1.2
    have hlo2 : w.heap.size ≤ lo2 := Nat.le_trans M.below.size g1
    have hO6 := hO2.1.mono hlo2
    clear inv hO2 h4 g1 M
    change wpList _ _ _ (_ :: [_]) _ _
    obtain ⟨p9, c9, rfl⟩ := own_outF hO6
    go_upto_region 9 with (at_builtin; (refine wpList_append_own _ rfl _ _ 55 rfl w.heap.size 103 i0 (.agg #[.int .i16 0, .int .i16 0, .int .i16 0, .int .i16 0, .int .i16 0, .int .i8 0]) 6 12 Tryd.underlying55 hi hz0 hz1 hz2 rfl (by decide) _ _ _ rfl hO6 ⟨lo4, 0, none⟩ 1 1 (srow ksFlock F k).toList rfl rfl ?rc2 ?rc3 ?rc4 ?rc5 ?rc6 ?_))
    case rc2 =>
      intro j u hj
      (try rw [Addr.add_lit])
      (try rw [Nat.zero_add])
      first | exact B4.cell hj | exact B4.cell (by rw [← Array.getElem?_toList]; exact hj)
    case rc3 =>
      intro u hu
      have h := srow_one ksFlock F k
      rw [Array.all_eq_true_iff_forall_mem] at h
      exact h u (by simpa using hu)
    case rc4 => unfold maxLen; omega
    case rc5 => omega
    case rc6 => exact M6.below.size
    intro v7 w7 hown hgrow hnil
    rw [again_cells F n k] at hown
    have hb := M6.below.grown hgrow M6.below.size (fun k hk => (hO6.lt k hk).1)
    obtain ⟨p, c', rfl, hSO⟩ := Sown (ks := ksFlock) hown
    clear hown hgrow hnil hi hz0 hz1 hz2 hO6
    obtain ⟨ob, cs, rfl, hlo, hsz, B, hvs⟩ : ∃ ob cs, p = some ⟨ob, 0, none⟩ ∧ w.heap.size ≤ ob ∧ (n + 1) * ksFlock.length ≤ cs.size ∧ Blk w7 ob cs 103 ∧ (∀ i, i < n + 1 → ∀ j, j < ksFlock.length → cs[i * ksFlock.length + j]? = some (sget ksFlock (againF F n k) i j)) := by
      rcases hSO with h0 | ⟨b9, cs, e9, h1, h2, h3, h4⟩
      · omega
      · exact ⟨b9, cs, e9, h1, h2, h3, h4⟩
    have R0 := RowsF.start hsz hvs
    have M5 := Mem.oneF hb hlo B
    have d0 : w7.cell? ⟨ob, k * 6 + 1, none⟩ = some (.int .i16 v) := by
      have h := (M5.at 0 rfl).cell (i := k * 6 + 1) (R0.2 k (by omega) 1 (by decide))
      rw [h, ← HV.out]
      unfold sget againF
      rw [if_neg (show ¬ k = n by omega)]; rfl
    have e0 := (M5.at 0 rfl).free (k * 6 + 1)
    have d1 := (M5.at 0 rfl).cell (i := n * 6 + 1) (R0.2 n (by omega) 1 (by decide))
    have e1 := (M5.at 0 rfl).free (n * 6 + 1)
    have hkne : k * 6 + 1 ≠ n * 6 + 1 := by omega
    have hnn1 : (n : Int) < (n : Int) + 1 := by omega
    clear hSO hsz hvs B hb M6
    go_upto_region 10 with (fail)
    have R1 := R0.put (show k < n + 1 by omega) (j := 1) (by decide) (v - x)
    have M8 := M5.set 0 (k * 6 + 1) (.int .i16 (v - x)) rfl _ rfl
    have d2 := (M8.at 0 rfl).cell (i := n * 6 + 1) (R1.2 n (by omega) 1 (by decide))
    have e2 := (M8.at 0 rfl).free (n * 6 + 1)
    clear d0 e0 d1 e1
    go_wp2_with fail
    have R2 := R1.put (show n < n + 1 by omega) (j := 1) (by decide) x
    have M9 := M8.set 0 (n * 6 + 1) (.int .i16 x) rfl _ rfl
    go_ret2
    have eR : sfRow F n (k : Int) x = setAtF (setAtF (againF F n k) k 1 (v - x)) n 1 x := by unfold sfRow; rw [Int.toNat_natCast, HV.out]
    have h := R2.so hlo (M9.at 0 rfl)
    rw [← eR] at h
    exact ⟨_, c', rfl, h.inS, h.sw, M9.below⟩
set_option maxRecDepth 100000 in
set_option maxHeartbeats 8000000 in
theorem checkSplitting_any (f : Fd) (hf : f.Wf) (n : Nat) (hn : n ≤ 2 ^ 40) (F : Nat → Nat → Int) (hF : WfS ksFlock n F) (i : Int) (hib : -9223372036854775808 ≤ i ∧ i ≤ 9223372036854775807) (x : Int) (hxb : -9223372036854775808 ≤ x ∧ x ≤ 9223372036854775807) (b cap : Nat) (A : Nat → Addr) (w : World) (I : InS w b 0 n ksFlock F) (T0 : TabAt w) (S0 : Sents w A) :
    Calls Tryd.prog 71 #[.agg (fcells f), .slice (some ⟨b, 0, none⟩) n cap, .int .i64 i, .int .i64 x] w fun e w' => e = .returned (errF A (sfCode f n F i x)) ∧ Below w.heap.size w w' := by
  have HI := Lib.hid I
  have S : Hid (Sents w A) := Lib.hid S0
  have T : Hid (TabAt w) := Lib.hid T0
  clear I S0 T0
  have hif := isIfaceErr
  obtain ⟨hx1, hx2⟩ := hxb
  rcases sf_cases f n F i x with ⟨hi0, hk⟩ | ⟨k, rfl, hkn, hi0, ho, hrest⟩
  · rw [hk]
    rcases idx_cases f n F i with ⟨h, _⟩ | ⟨h, ho⟩ | ⟨h, ho, hp⟩
    · exact absurd h hi0
    · rw [h, show errF A 1 = errVal (A 1) from rfl]
      have HB : Hid (errIf A 1 (okFlocks f n F) = errVal (A 1)) := Lib.hid (by rw [ho]; rfl)
      clear hi0 hk h ho
      go_enter Tryd.func71, Tryd.ntmps71
      go_upto_region 1 with (fail)
      obtain ⟨W, hW, M⟩ := open1 w (fcells f) 34
      rw [hW]; clear hW
      go_wp2_with (first
        | (refine wpList_load_part rfl 34 _ rfl w.heap.size 0 rfl (fcells f) _ (M.at 0 rfl).whole Tryd.underlying34 rfl (by rw [fcells_size]; exact sizeFd) ?_)
        | (go_at_call 98; refine (checkBirds0 f hf n hn F hF A b cap _ (T.out.later M.below) (S.out.later M.below) (HI.out.later M.below)).mono ?_; rintro e W2 ⟨rfl, hb⟩; rw [HB.out]; have M2 := M.call hb; have hv2 := (S.out.later M2.below).v2; have hv3 := (S.out.later M2.below).v3; clear M hb))
      go_ret
      exact ⟨rfl, M2.below⟩
    · rw [h, show errF A 2 = errVal (A 2) from rfl]
      have HB : Hid (errIf A 1 (okFlocks f n F) = .nilIface) := Lib.hid (by rw [ho]; rfl)
      have HP := Lib.hid hp
      clear hi0 hk h ho hp
      go_enter Tryd.func71, Tryd.ntmps71
      go_upto_region 1 with (fail)
      obtain ⟨W, hW, M⟩ := open1 w (fcells f) 34
      rw [hW]; clear hW
      go_wp2_with (first
        | (refine wpList_load_part rfl 34 _ rfl w.heap.size 0 rfl (fcells f) _ (M.at 0 rfl).whole Tryd.underlying34 rfl (by rw [fcells_size]; exact sizeFd) ?_)
        | (go_at_call 98; refine (checkBirds0 f hf n hn F hF A b cap _ (T.out.later M.below) (S.out.later M.below) (HI.out.later M.below)).mono ?_; rintro e W2 ⟨rfl, hb⟩; rw [HB.out]; have M2 := M.call hb; have hv2 := (S.out.later M2.below).v2; have hv3 := (S.out.later M2.below).v3; clear M hb)
        | (go_at_call 99; refine (hasFlock_any n hn _ _ cap _).mono ?_; rintro e W3 ⟨rfl, rfl⟩; rw [HP.out]))
      go_ret
      exact ⟨rfl, M2.below⟩
  have HB : Hid (errIf A 1 (okFlocks f n F) = .nilIface) := Lib.hid (by rw [ho]; rfl)
  have HP : Hid (inB (k : Int) 0 ((n : Int) - 1) = true) := Lib.hid (inB_iff.2 ⟨by omega, by omega⟩)
  have hv0 := ok_birdsF ho hkn
  obtain ⟨v, hv⟩ : ∃ v, F k 1 = v := ⟨_, rfl⟩
  have HV := Lib.hid hv
  rw [hv] at hv0 hrest
  obtain ⟨hv1, hv2⟩ := hv0
  have hwv : IntKind.i64.wrap v = v := IntWalk.i64_in _ (by omega)
  clear hi0 hv ho
  rcases hrest with ⟨hx, hk⟩ | ⟨hx, hn12, hk⟩ | ⟨hx, hn12, hk⟩
  · rw [hk, show errF A 2 = errVal (A 2) from rfl]
    have hor : x < 0 ∨ (0 ≤ x ∧ v < x) := by
      have : ¬ (0 ≤ x ∧ x ≤ v) := fun h => by rw [inB_iff.2 h] at hx; cases hx
      omega
    clear hx hk
    rcases hor with hlow | ⟨hge, hhigh⟩
    · go_enter Tryd.func71, Tryd.ntmps71
      go_upto_region 1 with (fail)
      obtain ⟨W, hW, M⟩ := open1 w (fcells f) 34
      rw [hW]; clear hW
      go_wp2_with (first
        | (refine wpList_load_part rfl 34 _ rfl w.heap.size 0 rfl (fcells f) _ (M.at 0 rfl).whole Tryd.underlying34 rfl (by rw [fcells_size]; exact sizeFd) ?_)
        | (go_at_call 98; refine (checkBirds0 f hf n hn F hF A b cap _ (T.out.later M.below) (S.out.later M.below) (HI.out.later M.below)).mono ?_; rintro e W2 ⟨rfl, hb⟩; rw [HB.out]; have M2 := M.call hb; have hv2 := (S.out.later M2.below).v2; have hv3 := (S.out.later M2.below).v3; have c1 : W2.cell? ⟨b, k * 6 + 1, none⟩ = some (.int .i16 v) := (by have h := (HI.out.later M2.below) k hkn 1 _ (by rw [Array.getElem?_toList]; exact srow_get ksFlock F k 1 (by decide)); rw [Nat.zero_add] at h; rw [← HV.out]; exact h); clear M hb)
        | (go_at_call 99; refine (hasFlock_any n hn _ _ cap _).mono ?_; rintro e W3 ⟨rfl, rfl⟩; rw [HP.out]))
      go_ret
      exact ⟨rfl, M2.below⟩
    · go_enter Tryd.func71, Tryd.ntmps71
      go_upto_region 1 with (fail)
      obtain ⟨W, hW, M⟩ := open1 w (fcells f) 34
      rw [hW]; clear hW
      go_wp2_with (first
        | (refine wpList_load_part rfl 34 _ rfl w.heap.size 0 rfl (fcells f) _ (M.at 0 rfl).whole Tryd.underlying34 rfl (by rw [fcells_size]; exact sizeFd) ?_)
        | (go_at_call 98; refine (checkBirds0 f hf n hn F hF A b cap _ (T.out.later M.below) (S.out.later M.below) (HI.out.later M.below)).mono ?_; rintro e W2 ⟨rfl, hb⟩; rw [HB.out]; have M2 := M.call hb; have hv2 := (S.out.later M2.below).v2; have hv3 := (S.out.later M2.below).v3; have c1 : W2.cell? ⟨b, k * 6 + 1, none⟩ = some (.int .i16 v) := (by have h := (HI.out.later M2.below) k hkn 1 _ (by rw [Array.getElem?_toList]; exact srow_get ksFlock F k 1 (by decide)); rw [Nat.zero_add] at h; rw [← HV.out]; exact h); clear M hb)
        | (go_at_call 99; refine (hasFlock_any n hn _ _ cap _).mono ?_; rintro e W3 ⟨rfl, rfl⟩; rw [HP.out]))
      go_ret
      exact ⟨rfl, M2.below⟩
  · rw [hk, show errF A 3 = errVal (A 3) from rfl]
    obtain ⟨hxa, hxc⟩ := inB_iff.1 hx
    have hn3 : (n : Int) = 12 := by omega
    clear hx hk hn12
    go_enter Tryd.func71, Tryd.ntmps71
    go_upto_region 1 with (fail)
    obtain ⟨W, hW, M⟩ := open1 w (fcells f) 34
    rw [hW]; clear hW
    go_wp2_with (first
      | (refine wpList_load_part rfl 34 _ rfl w.heap.size 0 rfl (fcells f) _ (M.at 0 rfl).whole Tryd.underlying34 rfl (by rw [fcells_size]; exact sizeFd) ?_)
      | (go_at_call 98; refine (checkBirds0 f hf n hn F hF A b cap _ (T.out.later M.below) (S.out.later M.below) (HI.out.later M.below)).mono ?_; rintro e W2 ⟨rfl, hb⟩; rw [HB.out]; have M2 := M.call hb; have hv2 := (S.out.later M2.below).v2; have hv3 := (S.out.later M2.below).v3; have c1 : W2.cell? ⟨b, k * 6 + 1, none⟩ = some (.int .i16 v) := (by have h := (HI.out.later M2.below) k hkn 1 _ (by rw [Array.getElem?_toList]; exact srow_get ksFlock F k 1 (by decide)); rw [Nat.zero_add] at h; rw [← HV.out]; exact h); clear M hb)
      | (go_at_call 99; refine (hasFlock_any n hn _ _ cap _).mono ?_; rintro e W3 ⟨rfl, rfl⟩; rw [HP.out]))
    go_ret
    exact ⟨rfl, M2.below⟩
  · rw [hk, show errF A 0 = .nilIface from rfl]
    obtain ⟨hxa, hxc⟩ := inB_iff.1 hx
    have hn3 : ¬ (n : Int) = 12 := by omega
    clear hx hk
    go_enter Tryd.func71, Tryd.ntmps71
    go_upto_region 1 with (fail)
    obtain ⟨W, hW, M⟩ := open1 w (fcells f) 34
    rw [hW]; clear hW
    go_wp2_with (first
      | (refine wpList_load_part rfl 34 _ rfl w.heap.size 0 rfl (fcells f) _ (M.at 0 rfl).whole Tryd.underlying34 rfl (by rw [fcells_size]; exact sizeFd) ?_)
      | (go_at_call 98; refine (checkBirds0 f hf n hn F hF A b cap _ (T.out.later M.below) (S.out.later M.below) (HI.out.later M.below)).mono ?_; rintro e W2 ⟨rfl, hb⟩; rw [HB.out]; have M2 := M.call hb; have hv2 := (S.out.later M2.below).v2; have hv3 := (S.out.later M2.below).v3; have c1 : W2.cell? ⟨b, k * 6 + 1, none⟩ = some (.int .i16 v) := (by have h := (HI.out.later M2.below) k hkn 1 _ (by rw [Array.getElem?_toList]; exact srow_get ksFlock F k 1 (by decide)); rw [Nat.zero_add] at h; rw [← HV.out]; exact h); clear M hb)
      | (go_at_call 99; refine (hasFlock_any n hn _ _ cap _).mono ?_; rintro e W3 ⟨rfl, rfl⟩; rw [HP.out]))
    go_ret
    exact ⟨rfl, M2.below⟩
set_option maxRecDepth 100000 in
set_option maxHeartbeats 8000000 in
theorem implSplitFlock (f : Fd) (hf : f.Wf) (n : Nat) (hn : n ≤ 2 ^ 40) (F : Nat → Nat → Int) (hF : WfS ksFlock n F) (i : Int) (hib : -9223372036854775808 ≤ i ∧ i ≤ 9223372036854775807) (x : Int) (hxb : -9223372036854775808 ≤ x ∧ x ≤ 9223372036854775807) (b cap : Nat) (A : Nat → Addr) (w : World) (I : InS w b 0 n ksFlock F) (T0 : TabAt w) (S0 : Sents w A) :
    Calls Tryd.prog 35 #[.agg (fcells f), .slice (some ⟨b, 0, none⟩) n cap, .int .i64 i, .int .i64 x] w fun e w' => ∃ p c', e = .returned (.tuple #[.slice p (sfN f n F i x) c', .int .i64 (sfCode f n F i x)]) ∧ SV ksFlock w.heap.size w'.heap.size w' p (sfN f n F i x) (sfRow F n i x) ∧ SW ksFlock 103 w.heap.size w'.heap.size w' p (sfN f n F i x) ∧ Below w.heap.size w w' := by
  have HI := Lib.hid I
  have S : Hid (Sents w A) := Lib.hid S0
  have T : Hid (TabAt w) := Lib.hid T0
  clear I S0 T0
  have hif := isIfaceErr
  have hib2 := hib
  have bad : ∀ k : Nat, 1 ≤ k → k ≤ 8 → sfCode f n F i x = k → Calls Tryd.prog 35 #[.agg (fcells f), .slice (some ⟨b, 0, none⟩) n cap, .int .i64 i, .int .i64 x] w fun e w' => ∃ p c', e = .returned (.tuple #[.slice p (sfN f n F i x) c', .int .i64 (sfCode f n F i x)]) ∧ SV ksFlock w.heap.size w'.heap.size w' p (sfN f n F i x) (sfRow F n i x) ∧ SW ksFlock 103 w.heap.size w'.heap.size w' p (sfN f n F i x) ∧ Below w.heap.size w w' := by
    intro k h1 h8 hk
    have HE : Hid (errF A (sfCode f n F i x) = errVal (A k)) := Lib.hid (by rw [hk]; exact errF_nat A k h1)
    have hN : sfN f n F i x = 0 := by unfold sfN; rw [hk, if_neg (by omega)]
    rw [hN, hk]
    clear hN hk
    go_enter Tryd.func35, Tryd.ntmps35
    go_upto_region 1 with (fail)
    obtain ⟨W, hW, M⟩ := open1 w (fcells f) 34
    rw [hW]; clear hW
    go_wp2_with (first
      | (refine wpList_load_part rfl 34 _ rfl w.heap.size 0 rfl (fcells f) _ (M.at 0 rfl).whole Tryd.underlying34 rfl (by rw [fcells_size]; exact sizeFd) ?_)
      | (go_at_call 71; refine (checkSplitting_any f hf n hn F hF _ hib2 x hxb b cap A _ (HI.out.later M.below) (T.out.later M.below) (S.out.later M.below)).mono ?_; rintro e W2 ⟨rfl, hb⟩; rw [HE.out]; have M2 := M.call hb; clear M hb)
      | (go_at_call 45; refine (codeOf_err A k h1 h8 _ (S.out.later M2.below)).mono ?_; rintro e W3 ⟨rfl, rfl⟩))
    go_ret2
    exact ⟨_, _, rfl, .inl rfl, .inl rfl, M2.below⟩
  rcases sf_cases f n F i x with ⟨hi0, hk⟩ | ⟨k, rfl, hkn, hi0, ho, hrest⟩
  · rcases idx_cases f n F i with ⟨h, _⟩ | ⟨h, _⟩ | ⟨h, _⟩
    · exact absurd h hi0
    · exact bad 1 (by omega) (by omega) (by rw [hk, h]; rfl)
    · exact bad 2 (by omega) (by omega) (by rw [hk, h]; rfl)
  have hv0 := ok_birdsF ho hkn
  obtain ⟨v, hv⟩ : ∃ v, F k 1 = v := ⟨_, rfl⟩
  have HV := Lib.hid hv
  rw [hv] at hv0 hrest
  obtain ⟨hv1, hv2⟩ := hv0
  clear hi0 hv ho
  rcases hrest with ⟨hx, hk⟩ | ⟨hx, hn12, hk⟩ | ⟨hx, hn12, hk⟩
  · exact bad 2 (by omega) (by omega) hk
  · exact bad 3 (by omega) (by omega) hk
  · have hN : sfN f n F (k : Int) x = n + 1 := by unfold sfN; rw [hk]; rfl
    have HE : Hid (errF A (sfCode f n F (k : Int) x) = .nilIface) := Lib.hid (by rw [hk]; rfl)
    rw [hN, hk]
    have hxx := inB_iff.1 hx
    have hwx : IntKind.i16.wrap x = x := IntWalk.i16_in _ (by omega)
    have hwd : IntKind.i16.wrap (v - x) = v - x := IntWalk.i16_in _ (by omega)
    have hpos : 0 < n := by omega
    obtain ⟨i0, hi, hz0, hz1, hz2⟩ := info_parts Finfo
    clear bad hk hN hx
    go_enter Tryd.func35, Tryd.ntmps35
    go_upto_region 1 with (fail)
    obtain ⟨W, hW, M⟩ := open1 w (fcells f) 34
    rw [hW]; clear hW
    go_upto_region 4 with (first
      | (refine wpList_load_part rfl 34 _ rfl w.heap.size 0 rfl (fcells f) _ (M.at 0 rfl).whole Tryd.underlying34 rfl (by rw [fcells_size]; exact sizeFd) ?_)
      | (go_at_call 71; refine (checkSplitting_any f hf n hn F hF _ hib2 x hxb b cap A _ (HI.out.later M.below) (T.out.later M.below) (S.out.later M.below)).mono ?_; rintro e W2 ⟨rfl, hb⟩; rw [HE.out]; have M2 := M.call hb; clear M hb))
    refine wp_region_rel_tail 7 (DL [dV (.slice (some ⟨b, 0, none⟩) n cap), dP (fun v lo _ w9 => w9.ownsRow lo 103 6 v n (scells ksFlock n F).toList), dV (.slice (some ⟨b, 0, none⟩) n cap), dV (.int .i64 (k : Int)), dV (.pointer (some ⟨b, 0 + k * 6, none⟩)), dV (.agg (srow ksFlock F k)), dP (fun v lo _ w9 => v = .slice (some ⟨lo, 0, none⟩) 1 1 ∧ Blk w9 lo (srow ksFlock F k) 103)]) (fun w' => Mem w w' [⟨w.heap.size, fcells f, 34⟩]) (by kernel_rfl) (by kernel_rfl) grows_mem
      (stays_DL (fun d hd => by
        simp only [List.mem_cons, List.mem_nil_iff, or_false] at hd
        rcases hd with rfl | rfl | rfl | rfl | rfl | rfl | rfl <;> first | exact stay_V | exact stay_P)) M2.drew ?_
    refine rel_val _ rfl rfl (fun _ _ => rfl) (fun _ => ?_)
    simp only [Act.put, List.setIfInBounds_toArray, List.set_cons_zero, List.set_cons_succ]
    refine rel_callP _ 68 #[.slice (some ⟨b, 0, none⟩) n cap] rfl rfl rfl rfl (enters_of Tryd.func68 (by kernel_rfl) rfl) (fun w' hw' => (Fclone_own n hn F b cap w' (HI.out.later hw'.below)).mono (fun e w2 h => by
      obtain ⟨v, he, ho, hb⟩ := h
      exact ⟨v, he, hb, fun w3 hb3 => owns_belowF ho hb3⟩)) (fun v2 lo2 hi2 _ _ => ?_)
    simp only [Act.put, List.setIfInBounds_toArray, List.set_cons_zero, List.set_cons_succ]
    refine rel_val _ rfl rfl (fun _ _ => rfl) (fun _ => ?_)
    simp only [Act.put, List.setIfInBounds_toArray, List.set_cons_zero, List.set_cons_succ]
    refine rel_val _ rfl rfl (fun _ _ => rfl) (fun _ => ?_)
    simp only [Act.put, List.setIfInBounds_toArray, List.set_cons_zero, List.set_cons_succ]
    refine rel_index 55 103 _ _ rfl b 0 n cap 6 k rfl rfl hkn Tryd.underlying55 (by kernel_rfl) rfl rfl (fun _ => ?_)
    simp only [Act.put, List.setIfInBounds_toArray, List.set_cons_zero, List.set_cons_succ]
    refine rel_load 103 _ rfl (b) (0 + k * 6) rfl (srow ksFlock F k) _ rfl rfl (fun w' hw' => InS.elem (ks := ksFlock) HI.out (by decide) hw'.below hkn) Tryd.underlying103 rfl (by rw [srow_size]; kernel_rfl) (fun _ => ?_)
    simp only [Act.put, List.setIfInBounds_toArray, List.set_cons_zero, List.set_cons_succ]
    refine rel_runP _ rfl rfl (fun w9 _ => ⟨.slice (some ⟨w9.heap.size, 0, none⟩) 1 1, w9.alloc (.cells (srow ksFlock F k) 103), by simp [execOp, Act.eval, go_sem, srow, List.range_succ, sget], (Below.refl _ _).alloc (Nat.le_refl _) _, fun w8 hb8 => ⟨rfl, (Blk.new w9 (srow ksFlock F k) 103).later hb8⟩⟩) (fun v4 lo4 hi4 _ ⟨_, _, hv4⟩ => ?_)
    obtain ⟨rfl, _⟩ := hv4
    simp only [Act.put, List.setIfInBounds_toArray, List.set_cons_zero, List.set_cons_succ]
    refine rel_nil (fun W6 inv => ?_)
    have M6 := inv.cls
    obtain ⟨g1, _, _, hO2⟩ := inv.fact 1 _ rfl
    obtain ⟨_, _, _, h4⟩ := inv.fact 6 _ rfl
    have B4 := h4.1.2
    have hlo2 : w.heap.size ≤ lo2 := Nat.le_trans M2.below.size g1
    have hO6 := hO2.1.mono hlo2
    clear inv hO2 h4 g1 M2
    change wpList _ _ _ (_ :: [_]) _ _
    obtain ⟨p9, c9, rfl⟩ := own_outF hO6
    go_upto_region 5 with (at_builtin; (refine wpList_append_own _ rfl _ _ 55 rfl w.heap.size 103 i0 (.agg #[.int .i16 0, .int .i16 0, .int .i16 0, .int .i16 0, .int .i16 0, .int .i8 0]) 6 12 Tryd.underlying55 hi hz0 hz1 hz2 rfl (by decide) _ _ _ rfl hO6 ⟨lo4, 0, none⟩ 1 1 (srow ksFlock F k).toList rfl rfl ?rc2 ?rc3 ?rc4 ?rc5 ?rc6 ?_))
    case rc2 =>
      intro j u hj
      (try rw [Addr.add_lit])
      (try rw [Nat.zero_add])
      first | exact B4.cell hj | exact B4.cell (by rw [← Array.getElem?_toList]; exact hj)
    case rc3 =>
      intro u hu
      have h := srow_one ksFlock F k
      rw [Array.all_eq_true_iff_forall_mem] at h
      exact h u (by simpa using hu)
    case rc4 => unfold maxLen; omega
    case rc5 => omega
    case rc6 => exact M6.below.size
    intro v7 w7 hown hgrow hnil
    rw [again_cells F n k] at hown
    have hb := M6.below.grown hgrow M6.below.size (fun k hk => (hO6.lt k hk).1)
    obtain ⟨p, c', rfl, hSO⟩ := Sown (ks := ksFlock) hown
    clear hown hgrow hnil hi hz0 hz1 hz2 hO6
    obtain ⟨ob, cs, rfl, hlo, hsz, B, hvs⟩ : ∃ ob cs, p = some ⟨ob, 0, none⟩ ∧ w.heap.size ≤ ob ∧ (n + 1) * ksFlock.length ≤ cs.size ∧ Blk w7 ob cs 103 ∧ (∀ i, i < n + 1 → ∀ j, j < ksFlock.length → cs[i * ksFlock.length + j]? = some (sget ksFlock (againF F n k) i j)) := by
      rcases hSO with h0 | ⟨b9, cs, e9, h1, h2, h3, h4⟩
      · omega
      · exact ⟨b9, cs, e9, h1, h2, h3, h4⟩
    have R0 := RowsF.start hsz hvs
    have M5 := Mem.oneF hb hlo B
    have d0 : w7.cell? ⟨ob, k * 6 + 1, none⟩ = some (.int .i16 v) := by
      have h := (M5.at 0 rfl).cell (i := k * 6 + 1) (R0.2 k (by omega) 1 (by decide))
      rw [h, ← HV.out]
      unfold sget againF
      rw [if_neg (show ¬ k = n by omega)]; rfl
    have e0 := (M5.at 0 rfl).free (k * 6 + 1)
    have d1 := (M5.at 0 rfl).cell (i := n * 6 + 1) (R0.2 n (by omega) 1 (by decide))
    have e1 := (M5.at 0 rfl).free (n * 6 + 1)
    have hkne : k * 6 + 1 ≠ n * 6 + 1 := by omega
    have hnn1 : (n : Int) < (n : Int) + 1 := by omega
    clear hSO hsz hvs B hb M6
    go_upto_region 6 with (fail)
    have R1 := R0.put (show k < n + 1 by omega) (j := 1) (by decide) (v - x)
    have M8 := M5.set 0 (k * 6 + 1) (.int .i16 (v - x)) rfl _ rfl
    have d2 := (M8.at 0 rfl).cell (i := n * 6 + 1) (R1.2 n (by omega) 1 (by decide))
    have e2 := (M8.at 0 rfl).free (n * 6 + 1)
    clear d0 e0 d1 e1
    go_wp2_with fail
    have R2 := R1.put (show n < n + 1 by omega) (j := 1) (by decide) x
    have M9 := M8.set 0 (n * 6 + 1) (.int .i16 x) rfl _ rfl
    go_ret2
    have eR : sfRow F n (k : Int) x = setAtF (setAtF (againF F n k) k 1 (v - x)) n 1 x := by unfold sfRow; rw [Int.toNat_natCast, HV.out]
    have h := R2.so hlo (M9.at 0 rfl)
    rw [← eR] at h
    exact ⟨_, c', rfl, h.inS, h.sw, M9.below⟩
end Go.Proofs.YtmdfmbkchiafhaaDoor
