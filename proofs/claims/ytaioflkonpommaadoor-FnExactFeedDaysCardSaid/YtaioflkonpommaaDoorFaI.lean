/-
  The program's day: all flocks fed, one after another; the visits bear their flock.
-/
import Derived.Test.YtaioflkonpommaaDoorFa
namespace Go.Proofs.YtaioflkonpommaaDoor
open Go Go.ChangeShapes Go.WideShapes Go.ChangeAt Go.RowKit Go.Shelf

abbrev cFlk (a : Nat → Int) : Array Value := #[.int .i16 (a 0), .int .i16 (a 1), .int .i16 (a 2), .int .i16 (a 3), .int .i16 (a 4), .int .i8 (a 5)]
theorem fdR_at {u : Int} {f : Fd} {g a : Nat → Int} {m j : Nat} (h : j < m) : rowsF (fdR u f g a m) j = fdV u f g a j := by
  funext i
  simp [rowsF, fdR, List.getD, h]
theorem so_vis {t : TypeId} {lo : Nat} {w : World} {p : Option Addr} {n : Nat} {F : Nat → Nat → Int} (h : SO ksVisit t lo w p n F) {k : Nat} (hk : k < n) : ∃ b, p = some ⟨b, 0, none⟩ ∧ lo ≤ b ∧ b < w.heap.size ∧ w.rangeAt b (k * 3) (cVis (F k)).toList := by
  rcases h with h | ⟨b, cs, h1, h2, h3, B, h5⟩
  · omega
  · refine ⟨b, h1, h2, B.lt, fun j v hj => ?_⟩
    have h6 := h5 k hk
    have hc : ∀ j, j < 3 → cs[k * 3 + j]? = some (sget ksVisit F k j) := fun j hj => h6 j hj
    match j, hj with
    | 0, hj => obtain rfl : v = .int .i8 (F k 0) := by simpa using hj.symm
               exact B.cell (hc 0 (by omega))
    | 1, hj => obtain rfl : v = .int .i16 (F k 1) := by simpa using hj.symm
               exact B.cell (hc 1 (by omega))
    | 2, hj => obtain rfl : v = .int .i16 (F k 2) := by simpa using hj.symm
               exact B.cell (hc 2 (by omega))
    | j + 3, hj => simp at hj
theorem fdV_tail (u : Int) (f : Fd) (g a : Nat → Int) (k : Nat) : fdV u f g a k 1 = fdV 0 f g a k 1 ∧ fdV u f g a k 2 = fdV 0 f g a k 2 ∧ fdV u f g a k 0 = u := ⟨rfl, rfl, rfl⟩
set_option maxRecDepth 100000 in
set_option maxHeartbeats 8000000 in
theorem fedAll_any (f : Fd) (hf : f.Wf) (hok : okF f = true) (g : Nat → Int) (hg : Wf16 g) (n : Nat) (hn : n ≤ 12) (F : Nat → Nat → Int) (hF : WfS ksFlock n F) (hFo : ∀ i, i < n → flockOk f (F i) = true) (d cc : Nat) (A : Nat → Addr) (w : World) (S0 : Sents w A) (I : InS w d 0 n ksFlock F) :
    Calls Tryd.prog 55 #[.agg (fcells f), .agg (acells .i16 100 g), .slice (some ⟨d, 0, none⟩) n cc] w (FaP f g F n w) := by
  have HI := Lib.hid I
  have HS := Lib.hid S0
  have HG9 := Lib.hid hg
  have HWF := Lib.hid hF
  have HFO := Lib.hid hFo
  have HOK := Lib.hid (fun i hi => fdA_ok (g := g) hf hok hFo i hi)
  have hz : Hid (Tryd.zeroCells30.size = 202) := Lib.hid (by rw [zeroFd, fcells_size])
  obtain ⟨i0, hi, hz0, hz1, hz2⟩ := info_parts Vinfo
  clear I hg hF hFo hf hok S0
  go_enter Tryd.func55, Tryd.ntmps55
  go_upto_region 1 with (fail)
  obtain ⟨W, hW, M⟩ := open3 w (fcells f) 30 (acells .i16 100 g) 36 Tryd.zeroCells30 30
  rw [hW]; clear hW
  go_upto_region 2 with (first
    | (refine wpList_load_part rfl 30 _ rfl w.heap.size 0 rfl (fcells f) _ (M.at 0 rfl).whole Tryd.underlying30 rfl (by rw [fcells_size]; exact sizeFd) ?_)
    | (refine wpList_store_row rfl 30 _ _ rfl W.heap.size (fcells f) rfl rfl 30 _ ((M.alloc Tryd.zeroCells30 30).at 3 rfl) (by rw [fcells_size]; exact sizeFd) (by rw [hz.out, fcells_size]) (fcells_one _) ?_))
  have M5 := (M.alloc Tryd.zeroCells30 30).row 3 rfl (fcells f)
  obtain ⟨lf, hlf⟩ : ∃ lf, W.heap.size = lf := ⟨_, rfl⟩
  have hlf2 : w.heap.size + 1 + 1 < lf := by rw [← hlf]; exact (M.at 2 rfl).lt
  rw [hlf] at M5 ⊢
  generalize World.setRow _ _ _ = W5 at M5 ⊢
  have M6 : Mem w W5 [⟨w.heap.size, fcells f, 30⟩, ⟨w.heap.size + 1, acells .i16 100 g, 36⟩, ⟨w.heap.size + 1 + 1, Tryd.zeroCells30, 30⟩, ⟨lf, fcells (fdA f g F 0), 30⟩] := M5
  obtain ⟨vz, hvz⟩ : ∃ vz, vz = W5.heap.size := ⟨_, rfl⟩
  have hvl : lf < vz := by rw [hvz]; exact (M5.at 3 rfl).lt
  have hvz2 : vz ≤ W5.heap.size := by omega
  have R0 : Hid (W5.ownsRow vz 32 3 (.slice none 0 0) 0 []) := Lib.hid (World.ownsRow_nil _ _ _ _)
  clear M M5 hlf hvz
  go_wp2_with fail
  go_loopw [9, 18] (fun v i wr => ∃ k : Nat, k ≤ n ∧ i = .int .i64 k ∧ vz ≤ wr.heap.size ∧ Mem w wr [⟨w.heap.size, fcells f, 30⟩, ⟨w.heap.size + 1, acells .i16 100 g, 36⟩, ⟨w.heap.size + 1 + 1, Tryd.zeroCells30, 30⟩, ⟨lf, fcells (fdA f g F k), 30⟩] ∧ Hid (wr.ownsRow vz 32 3 v (fdAR f g F k).length (scells ksVisit (fdAR f g F k).length (rowsF (fdAR f g F k))).toList)) (fun _ i _ => n - (intOf i).toNat)
  case atStart => exact ⟨0, by omega, rfl, hvz2, M6, R0⟩
  case round =>
    clear M6 R0 hvz2
    obtain ⟨k, hk, rfl, hZ, M, hO⟩ := hrel
    obtain ⟨R, hR⟩ : ∃ R, fdAR f g F k = R := ⟨_, rfl⟩
    rw [hR] at hO
    obtain ⟨p, c0, hv⟩ := own_shape hO.out
    subst hv
    by_cases hlt : k < n
    · obtain ⟨q1, q2⟩ := HOK.out k hk
      have hfo := HFO.out k hlt
      have h0 := flock_tree hfo
      have h5 := flock_taste hfo
      have hhun := flock_hunger hfo
      have hra : WfR (F k) := WfS.row HWF.out hlt
      have hRl := fdAR_len f g F k
      obtain ⟨FK, hFK⟩ : ∃ FK, fdA f g F k = FK := ⟨_, rfl⟩
      rw [hFK] at M q1 q2
      obtain ⟨FN, hFN⟩ : ∃ FN, fdA f g F (k + 1) = FN := ⟨_, rfl⟩
      have HFN := Lib.hid hFN
      have eFN : fdF FK g (F k) (fdN FK g (F k)) = FN := by rw [← hFN, ← hFK]; rfl
      have eR : fdAR f g F (k + 1) = fdAR f g F k ++ fdR (k : Int) FK g (F k) (fdN FK g (F k)) := by rw [← hFK]; rfl
      have hm4 := fdN_le FK g (F k)
      obtain ⟨m, hm⟩ : ∃ m, fdN FK g (F k) = m := ⟨_, rfl⟩
      have HFE : Hid (∀ (w9 : World) (S : Sents w9 A), Calls Tryd.prog 52 #[.agg (fcells FK), .agg (acells .i16 100 g), vFlock (F k)] w9 fun e w' => ∃ v, e = .returned (.tuple #[.agg (fcells FN), v]) ∧ w'.ownsRow w9.heap.size 32 3 v m (scells ksVisit m (rowsF (fdR 0 FK g (F k) m))).toList ∧ Below w9.heap.size w9 w') := Lib.hid (fun w9 S => (fedFlock_any FK q2 q1 g HG9.out (F k) hra h0 h5 hhun A w9 S).mono (fun e w' h => by
        obtain ⟨v, h1, h2, h3⟩ := h
        rw [eFN] at h1
        rw [hm] at h2
        exact ⟨v, h1, h2, h3⟩))
      have HER : Hid (fdAR f g F (k + 1) = fdAR f g F k ++ fdR (k : Int) FK g (F k) m) := Lib.hid (by rw [eR, hm])
      rw [hm] at hm4
      rw [hR] at HER hRl
      clear hFK hFN eFN eR hm hfo h0 h5 hhun hra hR q1 q2
      have hr : wr.rangeAt d (0 + k * 6) (cFlk (F k)).toList := InS.elem (ks := ksFlock) HI.out (by decide) M.below hlt
      rw [Nat.zero_add] at hr
      go_upto_region 7 with (refine wpList_load_part rfl 38 _ rfl _ _ rfl (cFlk (F k)) _ hr Tryd.underlying38 rfl (by kernel_rfl) ?_)
      have M1 := M.alloc (cFlk (F k)) 38
      have O1 := hO.out.alloc (.cells (cFlk (F k)) 38)
      have hob : ∀ b, (Value.slice p R.length c0).ownBlock = some b → b < wr.heap.size := fun b hb => (hO.out.lt b hb).2
      obtain ⟨fb, hfb⟩ : ∃ fb, fb = wr.heap.size := ⟨_, rfl⟩
      have Z4 : fb < (wr.alloc (.cells (cFlk (F k)) 38)).heap.size := by rw [hfb]; simp
      rw [← hfb] at M1 hob ⊢
      have Z5 : vz ≤ fb := by omega
      generalize World.alloc _ _ = W4 at M1 O1 Z4 ⊢
      clear M hfb hr hO hZ
      have ok1 : True := trivial
      have ok2 : True := trivial
      have ok3 : True := trivial
      go_upto_region 8 with (first
        | (clear ok1; refine wpList_load_part rfl 30 _ rfl lf 0 rfl (fcells FK) _ (M1.at 3 rfl).whole Tryd.underlying30 rfl (by rw [fcells_size]; exact sizeFd) ?_)
        | (clear ok2; refine wpList_load_part rfl 36 _ rfl (w.heap.size + 1) 0 rfl (acells .i16 100 g) _ (M1.at 1 rfl).whole Tryd.underlying36 rfl (by rw [acells_size]; exact sizeE) ?_)
        | (clear ok3; refine wpList_load_part rfl 38 _ rfl fb 0 rfl (cFlk (F k)) _ (M1.at 4 rfl).whole Tryd.underlying38 rfl (by kernel_rfl) ?_)
        | (go_at_call 52; refine (HFE.out _ (HS.out.later M1.below)).mono ?_; rintro e W6 ⟨v1, rfl, hv1, hb⟩; have M2 := M1.call hb; have O2 := own_later O1 hb; have Z6 := Nat.le_trans (Nat.le_of_lt Z4) hb.size; clear hb M1 O1)
        | (refine wpList_store_row rfl 30 _ _ rfl lf (fcells FN) rfl rfl 30 _ (M2.at 3 rfl) (by rw [fcells_size]; exact sizeFd) (by simp only [fcells_size]) (fcells_one _) ?_; have M3 := M2.row 3 rfl (fcells FN); have O3 := own_row O2 hvl (fcells FN); have V3 := own_row hv1 (by omega : lf < W4.heap.size) (fcells FN); have Z7 : fb ≤ (W6.setRow lf (fcells FN)).heap.size := (by simp; exact Z6); clear M2 O2 hv1))
      generalize World.setRow _ _ _ = W7 at M3 O3 V3 Z7 ⊢
      have M7 : Mem w W7 [⟨w.heap.size, fcells f, 30⟩, ⟨w.heap.size + 1, acells .i16 100 g, 36⟩, ⟨w.heap.size + 1 + 1, Tryd.zeroCells30, 30⟩, ⟨lf, fcells FN, 30⟩] := Mem.frontF M3
      obtain ⟨p1, c1, rfl, hS1⟩ := Sown (ks := ksVisit) V3
      have hS7 := Lib.hid hS1
      have hO7 : Hid (W7.ownsRow vz 32 3 (.slice p R.length c0) (R ++ fdR (k : Int) FK g (F k) 0).length (scells ksVisit (R ++ fdR (k : Int) FK g (F k) 0).length (rowsF (R ++ fdR (k : Int) FK g (F k) 0))).toList) := Lib.hid (by
        rw [show R ++ fdR (k : Int) FK g (F k) 0 = R by simp [fdR]]; exact O3)
      have hB7 : Hid (0 < m → ∀ b, p1 = some ⟨b, 0, none⟩ → (Value.slice p R.length c0).ownBlock ≠ some b) := Lib.hid (fun hm0 b hb he => by
        have h9 := hob b he
        rcases hS1 with h | ⟨b2, _, e2, h2, _⟩
        · omega
        · rw [hb] at e2; cases e2; omega)
      have Z8 : vz ≤ W7.heap.size := by omega
      clear M3 O3 V3 hS1 hob
      go_wp2_with fail
      go_loopw [9, 32] (fun u i wr => ∃ j : Nat, j ≤ m ∧ i = .int .i64 j ∧ vz ≤ wr.heap.size ∧ Mem w wr [⟨w.heap.size, fcells f, 30⟩, ⟨w.heap.size + 1, acells .i16 100 g, 36⟩, ⟨w.heap.size + 1 + 1, Tryd.zeroCells30, 30⟩, ⟨lf, fcells FN, 30⟩] ∧ Hid (wr.ownsRow vz 32 3 u (R ++ fdR (k : Int) FK g (F k) j).length (scells ksVisit (R ++ fdR (k : Int) FK g (F k) j).length (rowsF (R ++ fdR (k : Int) FK g (F k) j))).toList) ∧
        Hid (SO ksVisit 32 W4.heap.size wr p1 m (rowsF (fdR 0 FK g (F k) m))) ∧ Hid (0 < m → ∀ b, p1 = some ⟨b, 0, none⟩ → u.ownBlock ≠ some b)) (fun _ i _ => m - (intOf i).toNat)
      case atStart => exact ⟨0, by omega, rfl, Z8, M7, hO7, hS7, hB7⟩
      case round =>
        clear M7 hO7 hS7 hB7 Z8
        obtain ⟨j, hj, rfl, hZ, M, hO, hS, hB⟩ := hrel
        obtain ⟨T, hT⟩ : ∃ T, R ++ fdR (k : Int) FK g (F k) j = T := ⟨_, rfl⟩
        rw [hT] at hO
        obtain ⟨p2, c2, hv⟩ := own_shape hO.out
        subst hv
        by_cases hjm : j < m
        · obtain ⟨q, hp1, hq1, hq2, hr⟩ := so_vis hS.out hjm
          subst hp1
          rw [fdR_at hjm] at hr
          have hnq := hB.out (by omega) q rfl
          have hwk : IntKind.i8.wrap (k : Int) = (k : Int) := IntWalk.i8_in _ (by omega)
          have hlen : T.length ≤ 60 := by rw [← hT, List.length_append, fdR_len]; omega
          obtain ⟨x1, hx1⟩ : ∃ x1, fdV 0 FK g (F k) j 1 = x1 := ⟨_, rfl⟩
          obtain ⟨x2, hx2⟩ : ∃ x2, fdV 0 FK g (F k) j 2 = x2 := ⟨_, rfl⟩
          have HRC : Hid (rcells ksVisit (fdV (k : Int) FK g (F k) j) = [.int .i8 (k : Int), .int .i16 x1, .int .i16 x2]) := Lib.hid (by rw [cVis_row, ← hx1, ← hx2]; rfl)
          have hr2 : wr.rangeAt q (j * 3) (#[.int .i8 0, .int .i16 x1, .int .i16 x2] : Array Value).toList := by rw [← hx1, ← hx2]; exact hr
          clear hr hx1 hx2
          go_upto_region 11 with (refine wpList_load_part rfl 32 _ rfl _ _ rfl #[.int .i8 0, .int .i16 x1, .int .i16 x2] _ hr2 Tryd.underlying32 rfl (by kernel_rfl) ?_)
          have M1 := M.alloc #[.int .i8 0, .int .i16 x1, .int .i16 x2] 32
          have O1 := hO.out.alloc (.cells #[.int .i8 0, .int .i16 x1, .int .i16 x2] 32)
          have S1 := SO.grownV hS.out (World.grownBy_alloc wr (.cells #[.int .i8 0, .int .i16 x1, .int .i16 x2] 32) none) (fun b hb => by simp)
          have on := own_lt_ne hO.out (Nat.le_refl wr.heap.size)
          obtain ⟨xb, hxb⟩ : ∃ xb, xb = wr.heap.size := ⟨_, rfl⟩
          have Z4 : xb < (wr.alloc (.cells #[.int .i8 0, .int .i16 x1, .int .i16 x2] 32)).heap.size := by rw [hxb]; simp
          rw [← hxb] at M1 on hq2 hZ ⊢
          generalize World.alloc _ _ = W8 at M1 O1 S1 Z4 ⊢
          clear M hO hS hB hr2 hxb
          have d0 := (M1.at 4 rfl).cell (i := 0) (v := .int .i8 0) rfl
          have e0 := (M1.at 4 rfl).free 0
          go_upto_region 12 with (fail)
          have M2 := M1.set 4 0 (.int .i8 (k : Int)) rfl #[.int .i8 (k : Int), .int .i16 x1, .int .i16 x2] rfl
          have O2 := O1.kept (Ngrown_cell W8 xb 0 (.int .i8 (k : Int))) on
          have S2 := SO.grownV S1 (Ngrown_cell W8 xb 0 (.int .i8 (k : Int))) (fun b hb => by cases hb; intro h9; cases h9; omega)
          have Z5 : xb < (W8.setCell ⟨xb, 0, none⟩ (.int .i8 (k : Int))).heap.size := by have := (Ngrown_cell W8 xb 0 (.int .i8 (k : Int))).size; omega
          generalize World.setCell _ _ _ = W9 at M2 O2 S2 Z5 ⊢
          have M3 : Mem w W9 [⟨w.heap.size, fcells f, 30⟩, ⟨w.heap.size + 1, acells .i16 100 g, 36⟩, ⟨w.heap.size + 1 + 1, Tryd.zeroCells30, 30⟩, ⟨lf, fcells FN, 30⟩] := Mem.frontF M2
          have B2 := M2.at 4 rfl
          have O3 := Lib.hid O2
          have S3 := Lib.hid S2
          have HTS : Hid (R ++ fdR (k : Int) FK g (F k) (j + 1) = T ++ [fdV (k : Int) FK g (F k) j]) := Lib.hid (by rw [fdR_snoc, ← List.append_assoc, hT])
          clear M1 O1 S1 M2 O2 S2 d0 e0 on hT
          go_wp2_with (first
            | (refine wpList_load_part rfl 32 _ rfl xb 0 rfl #[.int .i8 (k : Int), .int .i16 x1, .int .i16 x2] _ B2.whole Tryd.underlying32 rfl (by kernel_rfl) ?_)
            | (at_builtin; refine wpList_append_own_at _ rfl _ _ 43 rfl vz 32 i0 (.agg #[.int .i8 0, .int .i16 0, .int .i16 0]) 3 6 Tryd.underlying43 hi hz0 hz1 hz2 rfl (by decide) _ _ _ rfl (O3.out.alloc _) ⟨W9.heap.size, 0, none⟩ 1 1 [.int .i8 (k : Int), .int .i16 x1, .int .i16 x2] rfl rfl ?c1 ?c2 ?c3 ?c4 ?c5 ?_))
          case c1 => exact row_new W9 [.int .i8 (k : Int), .int .i16 x1, .int .i16 x2] 32
          case c2 => intro u hu; simp at hu; rcases hu with rfl | rfl | rfl <;> rfl
          case c3 => unfold maxLen; omega
          case c4 => omega
          case c5 => simp; omega
          intro u2 w2 ho2 hg2 _ hat
          have M8 := Mem.ownG (M3.other (.cells #[.int .i8 (k : Int), .int .i16 x1, .int .i16 x2] 32)) (O3.out.alloc _) hg2 (by omega) (by
            intro x hx
            simp only [List.mem_cons, List.mem_nil_iff, or_false] at hx
            rcases hx with rfl | rfl | rfl | rfl <;> first | exact (by decide : (30 : TypeId) ≠ 32) | exact (by decide : (36 : TypeId) ≠ 32))
          have O8 : Hid (w2.ownsRow vz 32 3 u2 (R ++ fdR (k : Int) FK g (F k) (j + 1)).length (scells ksVisit (R ++ fdR (k : Int) FK g (F k) (j + 1)).length (rowsF (R ++ fdR (k : Int) FK g (F k) (j + 1)))).toList) := Lib.hid (by
            rw [HTS.out, scells_snoc, HRC.out, List.length_append]; exact ho2)
          have S8 := Lib.hid (SO.grownV (SO.grownV S3.out (World.grownBy_alloc W9 (.cells #[.int .i8 (k : Int), .int .i16 x1, .int .i16 x2] 32) none) (fun b hb => by simp)) hg2 (fun b hb => by cases hb; exact hnq.symm))
          have Z9 : vz ≤ w2.heap.size := by have := hg2.size; simp at this; omega
          have B8 : Hid (0 < m → ∀ b, some (⟨q, 0, none⟩ : Addr) = some ⟨b, 0, none⟩ → u2.ownBlock ≠ some b) := Lib.hid (fun _ b hb he => by
            cases hb
            rcases hat with h | h
            · exact hnq (h.symm.trans he)
            · rw [h] at he; simp at he; omega)
          clear ho2 hg2 O3 S3 M3 hat hnq
          go_wp2_with fail
          go_roundw
          case rel => exact ⟨j + 1, by omega, by go_num, Z9, M8, O8, S8, B8⟩
          case measure => simp [intOf]; omega
        · obtain rfl : j = m := by omega
          have HE : Hid (fdAR f g F (k + 1) = T) := Lib.hid (by rw [HER.out, hT])
          clear hT
          go_wp2_with fail
          go_roundw
          case rel => exact ⟨k + 1, by omega, by go_num, hZ, by rw [HFN.out]; exact M, Lib.hid (by rw [HE.out]; exact hO.out)⟩
          case measure => simp [intOf]; omega
    · obtain rfl : k = n := by omega
      subst hR
      have ok1 : True := trivial
      go_wp2_with (first
        | (clear ok1; refine wpList_load_part rfl 30 _ rfl lf 0 rfl (fcells (fdA f g F k)) _ (M.at 3 rfl).whole Tryd.underlying30 rfl (by rw [fcells_size]; exact sizeFd) ?_)
        | (refine wpList_store_row rfl 30 _ _ rfl (w.heap.size + 1 + 1) (fcells (fdA f g F k)) rfl rfl 30 _ (M.at 2 rfl) (by rw [fcells_size]; exact sizeFd) (by rw [hz.out, fcells_size]) (fcells_one _) ?_; have MX := M.row 2 rfl (fcells (fdA f g F k)); have OX := own_row hO.out (by omega : w.heap.size + 1 + 1 < vz) (fcells (fdA f g F k))))
      refine bodyPost_ret (results_row_tmp rfl _ _ (w.heap.size + 1 + 1) 30 _ _ _ rfl (MX.at 2 rfl) Tryd.underlying30 rfl (by rw [fcells_size]; exact sizeFd)) rfl ?_
      exact ⟨_, rfl, own_weak OX (by omega), MX.below⟩
end Go.Proofs.YtaioflkonpommaaDoor