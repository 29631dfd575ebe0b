/-
  The model's day: all flocks fed, one after another.
-/
import Derived.Test.YtaioflkonpommaaDoorFa
import Derived.Test.YtaioflkonpommaaDoorRelR
namespace Go.Proofs.YtaioflkonpommaaDoor
open Go Go.ChangeShapes Go.WideShapes Go.ChangeAt Go.RowKit Go.Shelf

set_option maxRecDepth 100000 in
set_option maxHeartbeats 8000000 in
theorem l02Day_any (f : Fd) (hf : f.Wf) (hok : okF f = true) (g : Nat → Int) (hg : Wf16 g) (n : Nat) (hn : n ≤ 12) (F : Nat → Nat → Int) (hF : WfS ksFlock n F) (hFo : ∀ i, i < n → flockOk f (F i) = true) (c d cc : Nat) (w : World) (G : Blk w c (acells .i16 100 g) 36) (I : InS w d 0 n ksFlock F) :
    Calls Tryd.prog 54 #[.agg (fcells f), .pointer (some ⟨c, 0, none⟩), .slice (some ⟨d, 0, none⟩) n cc] w (FaP f g F n w) := by
  have HG := Lib.hid G
  have HI := Lib.hid I
  have HG9 := Lib.hid hg
  have HWF := Lib.hid hF
  have HFO := Lib.hid hFo
  have HOK := Lib.hid (fun i hi => fdA_ok (g := g) hf hok hFo i hi)
  have hz : Hid (Tryd.zeroCells30.size = 202) := Lib.hid (by rw [zeroFd, fcells_size])
  obtain ⟨i0, hi, hz0, hz1, hz2⟩ := info_parts Vinfo
  clear G I hg hF hFo hf hok
  go_enter Tryd.func54, Tryd.ntmps54
  go_upto_region 1 with (fail)
  obtain ⟨W, hW, M⟩ := open2 w (fcells f) 30 Tryd.zeroCells30 30
  rw [hW]; clear hW
  obtain ⟨nb, hnb⟩ : ∃ nb, W.heap.size = nb := ⟨_, rfl⟩
  have hlow : w.heap.size + 1 < nb := by rw [← hnb]; exact (M.at 1 rfl).lt
  have R0 : (W.alloc (.cells #[] 32)).ownsRow nb 32 3 (.slice (some ⟨nb, 0, none⟩) 0 0) 0 [] := by rw [← hnb]; exact World.ownsRow_made W #[] 0 (Nat.le_refl _) (Nat.zero_le _) (by simp)
  go_upto_region 2 with (fail)
  have M1 : Mem w (W.alloc (.cells #[] 32)) [⟨w.heap.size, fcells f, 30⟩, ⟨w.heap.size + 1, Tryd.zeroCells30, 30⟩] := M.other _
  have Z1 : nb ≤ (W.alloc (.cells #[] 32)).heap.size := by simp; omega
  try rw [hnb]
  generalize W.alloc (.cells #[] 32) = W1 at R0 M1 Z1 ⊢
  clear M hnb
  replace R0 := Lib.hid R0
  go_wp2_with fail
  go_loopw [8, 9] (fun v i wr => ∃ k : Nat, k ≤ n ∧ i = .int .i64 k ∧ nb ≤ wr.heap.size ∧ Mem w wr [⟨w.heap.size, fcells (fdA f g F k), 30⟩, ⟨w.heap.size + 1, Tryd.zeroCells30, 30⟩] ∧ Hid (wr.ownsRow nb 32 3 v (fdAR f g F k).length (scells ksVisit (fdAR f g F k).length (rowsF (fdAR f g F k))).toList)) (fun _ i _ => n - (intOf i).toNat)
  case atStart => exact ⟨0, by omega, rfl, Z1, M1, R0⟩
  case round =>
    clear M1 R0 Z1
    obtain ⟨k, hk, rfl, hZ, M, hO⟩ := hrel
    obtain ⟨R, hR⟩ : ∃ R, fdAR f g F k = R := ⟨_, rfl⟩
    rw [hR] at hO
    obtain ⟨p, c0, hv⟩ := own_shape hO.out
    subst hv
    by_cases hlt : k < n
    · obtain ⟨q1, q2⟩ := HOK.out k hk
      have hfo := HFO.out k hlt
      have h0 := flock_tree hfo
      have h5 := flock_taste hfo
      have hhun := flock_hunger hfo
      have hra : WfR (F k) := WfS.row HWF.out hlt
      have hRl := fdAR_len f g F k
      obtain ⟨FK, hFK⟩ : ∃ FK, fdA f g F k = FK := ⟨_, rfl⟩
      rw [hFK] at M q1 q2
      obtain ⟨FN, hFN⟩ : ∃ FN, fdA f g F (k + 1) = FN := ⟨_, rfl⟩
      have HFN := Lib.hid hFN
      have eFN : fdF FK g (F k) (fdN FK g (F k)) = FN := by rw [← hFN, ← hFK]; rfl
      have eR : fdAR f g F (k + 1) = fdAR f g F k ++ fdR (k : Int) FK g (F k) (fdN FK g (F k)) := by rw [← hFK]; rfl
      have hm4 := fdN_le FK g (F k)
      obtain ⟨m, hm⟩ : ∃ m, fdN FK g (F k) = m := ⟨_, rfl⟩
      obtain ⟨S, hS⟩ : ∃ S, fdR (k : Int) FK g (F k) m = S := ⟨_, rfl⟩
      have hSl : S.length = m := by rw [← hS, fdR_len]
      have HFE : Hid (∀ (w9 : World) (G : Blk w9 c (acells .i16 100 g) 36) (H : FlkAt w9 d (0 + k * 6) (F k)), Calls Tryd.prog 51 #[.agg (fcells FK), .pointer (some ⟨c, 0, none⟩), .pointer (some ⟨d, 0 + k * 6, none⟩), .int .i64 (k : Int)] w9 fun e w' => ∃ v, e = .returned (.tuple #[.agg (fcells FN), v]) ∧ w'.ownsRow w9.heap.size 32 3 v m (scells ksVisit m (rowsF S)).toList ∧ v ≠ .slice none 0 0 ∧ Below w9.heap.size w9 w') := Lib.hid (fun w9 G H => (l02Feed_any FK q2 q1 g HG9.out (F k) hra h0 h5 hhun k (by omega) c d (0 + k * 6) w9 G H).mono (fun e w' h => by
        obtain ⟨v, h1, h2, h3, h4⟩ := h
        rw [eFN] at h1
        rw [hm, hS] at h2
        exact ⟨v, h1, h2, h3, h4⟩))
      have HER : Hid (fdAR f g F (k + 1) = fdAR f g F k ++ S) := Lib.hid (by rw [eR, hm, hS])
      rw [hm] at hm4
      rw [hR] at HER hRl
      clear hFK hFN eFN eR hm hS hfo h0 h5 hhun hra hR q1 q2
      go_upto_region 5 with (fail)
      refine wp_region_rel_edges [(11, 9)] 11 (DL [dV (.agg (fcells FK)), dV (.pointer (some ⟨c, 0, none⟩)), dV (.slice (some ⟨d, 0, none⟩) n cc), dV (.int .i64 (k : Int)), dV (.pointer (some ⟨d, 0 + k * 6, none⟩)), dV (.int .i64 (k : Int)), dP (fun v lo hi w9 => ∃ v1, v = .tuple #[.agg (fcells FN), v1] ∧ w9.ownsRow lo 32 3 v1 m (scells ksVisit m (rowsF S)).toList ∧ v1 ≠ .slice none 0 0 ∧ ∀ b, v1.ownBlock = some b → b < hi), dR id, dV (.agg (fcells FN)), dR (tupAt 1), dB (Tryd.zeroCells30) 30]) (C := fun w' => Mem w w' [⟨w.heap.size, fcells FK, 30⟩, ⟨w.heap.size + 1, Tryd.zeroCells30, 30⟩] ∧ Below wr.heap.size wr w') (fun _ _ _ _ _ h => h) (by kernel_rfl) (by kernel_rfl) (by kernel_rfl) grows_memB
        (stays_DL (fun d hd => by
          simp only [List.mem_cons, List.mem_nil_iff, or_false] at hd
          rcases hd with rfl | rfl | rfl | rfl | rfl | rfl | rfl | rfl | rfl | rfl | rfl <;> first | exact stay_V | exact stay_P | exact stay_R | exact stay_B)) ⟨M.drew, (Below.refl _ _).drew⟩ ?_
      refine rel_load 30 _ rfl (w.heap.size) (0) rfl (fcells FK) _ rfl rfl (fun w' hw' => (hw'.1.at 0 rfl).whole) Tryd.underlying30 rfl (by rw [fcells_size]; exact sizeFd) (fun _ => ?_)
      simp only [Act.put, List.setIfInBounds_toArray, List.set_cons_zero, List.set_cons_succ]
      refine rel_val _ rfl rfl (fun _ _ => rfl) (fun _ => ?_)
      simp only [Act.put, List.setIfInBounds_toArray, List.set_cons_zero, List.set_cons_succ]
      refine rel_val _ rfl rfl (fun _ _ => rfl) (fun _ => ?_)
      simp only [Act.put, List.setIfInBounds_toArray, List.set_cons_zero, List.set_cons_succ]
      refine rel_val _ rfl rfl (fun _ _ => rfl) (fun _ => ?_)
      simp only [Act.put, List.setIfInBounds_toArray, List.set_cons_zero, List.set_cons_succ]
      refine rel_index 51 38 _ _ rfl d 0 n cc 6 k rfl rfl hlt Tryd.underlying51 (by kernel_rfl) rfl rfl (fun _ => ?_)
      simp only [Act.put, List.setIfInBounds_toArray, List.set_cons_zero, List.set_cons_succ]
      refine rel_val _ rfl rfl (fun _ _ => rfl) (fun _ => ?_)
      simp only [Act.put, List.setIfInBounds_toArray, List.set_cons_zero, List.set_cons_succ]
      refine rel_callP _ 51 #[.agg (fcells FK), .pointer (some ⟨c, 0, none⟩), .pointer (some ⟨d, 0 + k * 6, none⟩), .int .i64 (k : Int)] rfl rfl rfl rfl (enters_of Tryd.func51 (by kernel_rfl) rfl) (fun w' hw' => (HFE.out w' (HG.out.later hw'.1.below) (flkAt_of (InS.elem (ks := ksFlock) HI.out (by decide) hw'.1.below hlt))).mono (fun e w2 h => by
        obtain ⟨v1, he, ho, hn1, hb⟩ := h
        exact ⟨_, he, hb, fun w3 hb3 => ⟨v1, rfl, own_later ho hb3, hn1, fun b hb => (ho.lt b hb).2⟩⟩)) (fun v lo5 hi5 hle5 hv => ?_)
      obtain ⟨_, _, v5, rfl, _⟩ := hv
      simp only [Act.put, List.setIfInBounds_toArray, List.set_cons_zero, List.set_cons_succ]
      refine rel_read id (.tuple #[.agg (fcells FN), v5]) rfl (by simp [readBy, Op.operands, Act.eval, tupAt]) rfl (fun _ _ => rfl) (fun _ => ?_)
      simp only [Act.put, List.setIfInBounds_toArray, List.set_cons_zero, List.set_cons_succ]
      refine rel_val _ rfl rfl (fun _ _ => rfl) (fun _ => ?_)
      simp only [Act.put, List.setIfInBounds_toArray, List.set_cons_zero, List.set_cons_succ]
      refine rel_read (tupAt 1) (v5) rfl (by simp [readBy, Op.operands, Act.eval, tupAt]) rfl (fun _ _ => rfl) (fun _ => ?_)
      simp only [Act.put, List.setIfInBounds_toArray, List.set_cons_zero, List.set_cons_succ]
      refine rel_alloc (Tryd.zeroCells30) 30 rfl rfl (fun _ => by rfl) (fun nn => ?_)
      simp only [Act.put, List.setIfInBounds_toArray, List.set_cons_zero, List.set_cons_succ]
      refine rel_nil (fun W5 inv => ?_)
      obtain ⟨a5, x5, y5, ⟨⟨v6, e5, O5, hn5, hb5⟩, _⟩⟩ := inv.fact 6 _ rfl
      have a5 : wr.heap.size ≤ lo5 := a5
      obtain rfl : v5 = v6 := by simpa using e5
      clear e5
      have MA := inv.mem1 (i := 10) M inv.cls.1 rfl
      have B5 := inv.cls.2
      have bn : wr.heap.size ≤ nn := (inv.fact 10 _ rfl).1
      have ap : hi5 ≤ nn ∨ nn + 1 ≤ lo5 := inv.apart 6 10 _ _ rfl rfl (by decide)
      have z5 := B5.size
      have un : nn < W5.heap.size := (MA.at 2 rfl).lt
      obtain ⟨b5, c5, rfl, hS5⟩ := Sown' (ks := ksVisit) O5 hn5
      have hb5' : lo5 ≤ b5 ∧ b5 < hi5 := ⟨(O5.lt b5 rfl).1, hb5 b5 rfl⟩
      have O9 := own_later hO.out B5
      have on : (Value.slice p R.length c0).ownBlock = none ∨ (Value.slice p R.length c0).ownBlock ≠ some nn := own_lt_ne hO.out bn
      clear inv M hO O5 hn5 hb5
      change wpList _ _ _ (_ :: [_]) _ _
      generalize List.toArray (List.foldl addEdge _ _) = ops9
      refine wpList_store_row rfl 30 _ _ rfl nn (fcells FN) rfl rfl 30 _ (MA.at 2 rfl) (by rw [fcells_size]; exact sizeFd) (by rw [hz.out, fcells_size]) (fcells_one _) ?_
      have MB := MA.row 2 rfl (fcells FN)
      have OB := O9.kept (grown_row W5 nn (fcells FN)) on
      have SB := SO.grownV hS5 (grown_row W5 nn (fcells FN)) (fun b hb => by cases hb; intro h9; cases h9; omega)
      have ZB : nb ≤ (W5.setRow nn (fcells FN)).heap.size := by simp; omega
      generalize World.setRow _ _ _ = W6 at MB OB SB ZB ⊢
      clear MA O9 hS5 on
      go_upto_region 7 with (first
        | (refine wpList_load_part rfl 30 _ rfl nn 0 rfl (fcells FN) _ (MB.at 2 rfl).whole Tryd.underlying30 rfl (by rw [fcells_size]; exact sizeFd) ?_)
        | (refine wpList_store_row rfl 30 _ _ rfl w.heap.size (fcells FN) rfl rfl 30 _ (MB.at 0 rfl) (by rw [fcells_size]; exact sizeFd) (by simp only [fcells_size]) (fcells_one _) ?_))
      have MC := MB.row 0 rfl (fcells FN)
      have OC := own_row OB (by omega : w.heap.size < nb) (fcells FN)
      have SC := SO.grownV SB (grown_row W6 w.heap.size (fcells FN)) (fun b hb => by cases hb; intro h9; cases h9; omega)
      have ZC : nb ≤ (W6.setRow w.heap.size (fcells FN)).heap.size := by simp; omega
      generalize World.setRow _ _ _ = W7 at MC OC SC ZC ⊢
      have M7 : Mem w W7 [⟨w.heap.size, fcells FN, 30⟩, ⟨w.heap.size + 1, Tryd.zeroCells30, 30⟩] := Mem.frontF (L := [⟨w.heap.size, fcells FN, 30⟩, ⟨w.heap.size + 1, Tryd.zeroCells30, 30⟩]) MC
      have O7 := Lib.hid OC
      have hIn := Lib.hid SC.insV
      clear MB OB SB MC OC SC
      go_wp2_with (at_builtin; refine wpList_append_own _ rfl _ _ 43 rfl nb 32 i0 (.agg #[.int .i8 0, .int .i16 0, .int .i16 0]) 3 6 Tryd.underlying43 hi hz0 hz1 hz2 rfl (by decide) _ _ _ rfl O7.out ⟨b5, 0, none⟩ m c5 (scells ksVisit m (rowsF S)).toList rfl (Slen ksVisit m (rowsF S)) (Snews (by decide) hIn.out) (Sone ksVisit m (rowsF S)) (by unfold maxLen; omega) (by omega) (by omega) ?_)
      intro v2 w2 ho2 hg2 _
      have M8 : Mem w w2 [⟨w.heap.size, fcells FN, 30⟩, ⟨w.heap.size + 1, Tryd.zeroCells30, 30⟩] := Mem.ownG M7 O7.out hg2 (by omega) (by
        intro x hx
        simp only [List.mem_cons, List.mem_nil_iff, or_false] at hx
        rcases hx with rfl | rfl <;> exact (by decide : (30 : TypeId) ≠ 32))
      have O8 : Hid (w2.ownsRow nb 32 3 v2 (fdAR f g F (k + 1)).length (scells ksVisit (fdAR f g F (k + 1)).length (rowsF (fdAR f g F (k + 1)))).toList) := Lib.hid (by
        rw [HER.out, scells_app, List.length_append, hSl]; exact ho2)
      have Z8 : nb ≤ w2.heap.size := by have := hg2.size; omega
      clear ho2 hg2 O7 M7
      go_wp2_with fail
      go_roundw
      case rel => exact ⟨k + 1, by omega, by go_num, Z8, by rw [HFN.out]; exact M8, O8⟩
      case measure => simp [intOf]; omega
    · obtain rfl : k = n := by omega
      subst hR
      go_wp2_with (first
        | (refine wpList_load_part rfl 30 _ rfl w.heap.size 0 rfl (fcells (fdA f g F k)) _ (M.at 0 rfl).whole Tryd.underlying30 rfl (by rw [fcells_size]; exact sizeFd) ?_)
        | (refine wpList_store_row rfl 30 _ _ rfl (w.heap.size + 1) (fcells (fdA f g F k)) rfl rfl 30 _ (M.at 1 rfl) (by rw [fcells_size]; exact sizeFd) (by rw [hz.out, fcells_size]) (fcells_one _) ?_; have MX := M.row 1 rfl (fcells (fdA f g F k)); have OX := own_row hO.out hlow (fcells (fdA f g F k))))
      refine bodyPost_ret (results_row_tmp rfl _ _ (w.heap.size + 1) 30 _ _ _ rfl (MX.at 1 rfl) Tryd.underlying30 rfl (by rw [fcells_size]; exact sizeFd)) rfl ?_
      exact ⟨_, rfl, own_weak OX (by omega), MX.below⟩
end Go.Proofs.YtaioflkonpommaaDoor