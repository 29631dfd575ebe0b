/-
  Feeding for several days: both sides.
-/
import Derived.Test.YtaioflkonpommaaDoorDyM
namespace Go.Proofs.YtaioflkonpommaaDoor
open Go Go.ChangeShapes Go.WideShapes Go.ChangeAt Go.RowKit Go.Shelf

theorem nums_succD (h : Nat → Int) (n : Nat) : nums h (n + 1) = nums h n ++ [h n] := by simp [nums, List.range_succ]
set_option maxRecDepth 100000 in
set_option maxHeartbeats 1000000 in
theorem l01SumD_any (f : Fd) (hok : okF f = true) (b : Nat) (w : World) (B : Blk w b (fcells f) 30) :
    Calls Tryd.prog 58 #[.pointer (some ⟨b, 0, none⟩)] w fun e w' => e = .returned (.int .i64 (sumD f.S 100)) ∧ w = w' := by
  have HB := Lib.hid B
  clear B
  go_enter Tryd.func58, Tryd.ntmps58
  go_wp2_with fail
  go_loop [3, 4] (fun s i => ∃ k : Nat, k ≤ 100 ∧ i = .int .i64 k ∧ s = .int .i64 (sumD f.S k)) (fun _ i => 100 - (intOf i).toNat)
  case atStart => exact ⟨0, by omega, rfl, rfl⟩
  case round =>
    obtain ⟨k, hk, rfl, rfl⟩ := hrel
    obtain ⟨hs1, hs2⟩ := sumD_in (g := f.S) (m := 1000) (n := k) (fun i hi => ok_seedsD hok (by omega))
    by_cases hlt : k < 100
    · have cS := HB.out.cell (fcells_S f k hlt)
      obtain ⟨hb1, hb2⟩ := ok_seedsD hok hlt
      go_wp2_with fail
      go_round
      case rel => exact ⟨k + 1, by omega, by go_num, by rw [sumD_succ]⟩
      case measure => simp [intOf]; omega
    · obtain rfl : k = 100 := by omega
      go_wp2_with fail
      go_ret
      exact ⟨rfl, rfl⟩
def DyP (f : Fd) (g : Nat → Int) (n : Nat) (F : Nat → Nat → Int) (x : Int) (w : World) (e : Ending) (w' : World) : Prop :=
  ∃ p c, e = .returned (.tuple #[.agg (fcells (dyQ f g n F x)), .slice p (dyN f g n F x) c, .int .i64 (dyCode f g n F x)]) ∧ NV w.heap.size w'.heap.size w' p (dyN f g n F x) (dyE f g n F) ∧ NW w.heap.size w'.heap.size w' p (dyN f g n F x) ∧ Below w.heap.size w w'
theorem dyP_ok {f : Fd} {g : Nat → Int} {n : Nat} {F : Nat → Nat → Int} {D : Nat} {w w' : World} (hok : dyOk f g n F D = true) {v : Value} {nb : Nat} (ho : w'.ownsRow nb 2 1 v D ((nums (dyE f g n F) D).map (Value.int .i64))) (hn : w.heap.size ≤ nb) (hb : Below w.heap.size w w') :
    DyP f g n F D w (.returned (.tuple #[.agg (fcells (dyF f g n F D)), v, .int .i64 0])) w' := by
  have hN : dyN f g n F D = D := by unfold dyN; rw [hok]; exact Int.toNat_natCast D
  have hQ : dyQ f g n F D = dyF f g n F D := by unfold dyQ; rw [hok]; show dyF f g n F (D : Int).toNat = _; rw [Int.toNat_natCast]
  simp only [dyOk, Bool.and_eq_true] at hok
  have hC : dyCode f g n F D = 0 := by unfold dyCode; rw [hok.1, hok.2]; rfl
  obtain ⟨p, c, rfl, V, X⟩ := Nown (nums_length _ _) ho
  exact ⟨p, c, by rw [hN, hQ, hC], by rw [hN]; exact (V.mono hn (Nat.le_refl _)).congr (fun i hi => nums_getD _ _ _ hi), by rw [hN]; exact X.mono hn (Nat.le_refl _), hb⟩
theorem dyP_blk {f : Fd} {g : Nat → Int} {n : Nat} {F : Nat → Nat → Int} {D : Nat} {w w' : World} (hok : dyOk f g n F D = true) {b c : Nat} (B : Blk w' b (acells .i64 D (dyE f g n F)) 2) (hn : w.heap.size ≤ b) (hb : Below w.heap.size w w') :
    DyP f g n F D w (.returned (.tuple #[.agg (fcells (dyF f g n F D)), .slice (some ⟨b, 0, none⟩) D c, .int .i64 0])) w' := by
  have hN : dyN f g n F D = D := by unfold dyN; rw [hok]; exact Int.toNat_natCast D
  have hQ : dyQ f g n F D = dyF f g n F D := by unfold dyQ; rw [hok]; show dyF f g n F (D : Int).toNat = _; rw [Int.toNat_natCast]
  simp only [dyOk, Bool.and_eq_true] at hok
  have hC : dyCode f g n F D = 0 := by unfold dyCode; rw [hok.1, hok.2]; rfl
  refine ⟨_, c, by rw [hN, hQ, hC], ?_, ?_, hb⟩
  · rw [hN]; exact .inr ⟨b, 0, rfl, hn, B.lt, fun i hi => by rw [Nat.zero_add]; exact B.cell (acells_get .i64 D _ i hi)⟩
  · rw [hN]; exact .inr ⟨b, 0, _, rfl, hn, B.lt, by rw [acells_size]; omega, B⟩
theorem dyP_bad {f : Fd} {g : Nat → Int} {n : Nat} {F : Nat → Nat → Int} {x : Int} {w w' : World} (hok : dyOk f g n F x = false) {k : Int} (hk : dyCode f g n F x = k) (p : Option Addr) (c : Nat) (hb : Below w.heap.size w w') : DyP f g n F x w (.returned (.tuple #[.agg Tryd.zeroCells30, .slice p 0 c, .int .i64 k])) w' := by
  have hN : dyN f g n F x = 0 := by unfold dyN; rw [hok]; rfl
  have hQ : dyQ f g n F x = Fd.zero := by unfold dyQ; rw [hok]; rfl
  exact ⟨p, c, by rw [hN, hQ, hk, zeroFd], by rw [hN]; exact .inl rfl, by rw [hN]; exact .inl rfl, hb⟩

set_option maxRecDepth 100000 in
set_option maxHeartbeats 8000000 in
theorem specDays (f : Fd) (hf : f.Wf) (g : Nat → Int) (hg : Wf16 g) (n : Nat) (hn : n ≤ 2 ^ 40) (F : Nat → Nat → Int) (hF : WfS ksFlock n F) (x : Int) (d cp : Nat) (w : World) (I : InS w d 0 n ksFlock F) : Calls Tryd.prog 27 #[.agg (fcells f), .agg (acells .i16 100 g), .slice (some ⟨d, 0, none⟩) n cp, .int .i64 x] w (DyP f g n F x w) := by
  have hz : Hid (Tryd.zeroCells30.size = 202) := Lib.hid (by rw [zeroFd, fcells_size])
  have hz1 : Hid (Tryd.zeroCells30.all (·.oneCell') = true) := Lib.hid (by rw [zeroFd]; exact fcells_one _)
  have HI := Lib.hid I
  have HAL := Lib.hid (fun (b c : Nat) (w : World) B G I => l02All_any f hf g hg n hn F hF b c d cp w B G I)
  clear I
  obtain ⟨i0, hinf, hy0, hy1, hy2⟩ := info_parts Ninfo
  cases hok : alOk f g n F with
  | false =>
    have hcode : alCode f g n F = 1 := by unfold alCode; rw [hok]; rfl
    have HC := Lib.hid hcode
    have HB : Hid (dyOk f g n F x = false) := Lib.hid (by unfold dyOk; rw [hok]; rfl)
    have HK : Hid (dyCode f g n F x = 1) := Lib.hid (by unfold dyCode; rw [hok]; rfl)
    clear hok hcode
    go_enter Tryd.func27, Tryd.ntmps27
    go_upto_region 1 with (fail)
    obtain ⟨W, hW, M⟩ := open3 w (fcells f) 30 (acells .i16 100 g) 36 Tryd.zeroCells30 30
    rw [hW]; clear hW
    have M2 := M.alloc #[] 2
    go_wp2_with (first
      | (go_at_call 53; refine (HAL.out w.heap.size (w.heap.size + 1) _ (M.at 0 rfl) (M.at 1 rfl) (HI.out.later M.below)).mono ?_; rintro e w1 ⟨rfl, rfl⟩; rw [HC.out])
      | (refine wpList_store_row rfl 30 _ _ rfl (w.heap.size + 1 + 1) Tryd.zeroCells30 rfl rfl 30 _ (M2.at 2 rfl) (by rw [hz.out]; exact sizeFd) (by rw [hz.out]) hz1.out ?_; have MX := M2.row 2 rfl Tryd.zeroCells30; clear M2))
    refine bodyPost_ret (results_row_tmp2 rfl _ _ (w.heap.size + 1 + 1) 30 _ _ _ rfl (MX.at 2 rfl) Tryd.underlying30 rfl (by rw [hz.out]; exact sizeFd)) rfl ?_
    exact dyP_bad HB.out HK.out _ _ MX.below
  | true =>
    have hcode : alCode f g n F = 0 := by unfold alCode; rw [hok]; rfl
    have HC := Lib.hid hcode
    cases hx : dyIn x with
    | false =>
      have HX : Hid (inB x 0 60 = false) := Lib.hid hx
      have HB : Hid (dyOk f g n F x = false) := Lib.hid (by unfold dyOk; rw [hok, hx]; rfl)
      have HK : Hid (dyCode f g n F x = 2) := Lib.hid (by unfold dyCode; rw [hok, hx]; rfl)
      clear hok hcode hx
      go_enter Tryd.func27, Tryd.ntmps27
      go_upto_region 1 with (fail)
      obtain ⟨W, hW, M⟩ := open3 w (fcells f) 30 (acells .i16 100 g) 36 Tryd.zeroCells30 30
      rw [hW]; clear hW
      have M2 := M.alloc #[] 2
      go_wp2_with (first
        | (go_at_call 53; refine (HAL.out w.heap.size (w.heap.size + 1) _ (M.at 0 rfl) (M.at 1 rfl) (HI.out.later M.below)).mono ?_; rintro e w1 ⟨rfl, rfl⟩; rw [HC.out])
        | (go_at_call 57; refine (l00In_any _ _ _ _).mono ?_; rintro e w1 ⟨rfl, rfl⟩; rw [HX.out])
        | (refine wpList_store_row rfl 30 _ _ rfl (w.heap.size + 1 + 1) Tryd.zeroCells30 rfl rfl 30 _ (M2.at 2 rfl) (by rw [hz.out]; exact sizeFd) (by rw [hz.out]) hz1.out ?_; have MX := M2.row 2 rfl Tryd.zeroCells30; clear M2))
      refine bodyPost_ret (results_row_tmp2 rfl _ _ (w.heap.size + 1 + 1) 30 _ _ _ rfl (MX.at 2 rfl) Tryd.underlying30 rfl (by rw [hz.out]; exact sizeFd)) rfl ?_
      exact dyP_bad HB.out HK.out _ _ MX.below
    | true =>
      have HX : Hid (inB x 0 60 = true) := Lib.hid hx
      have HB : Hid (dyOk f g n F x = true) := Lib.hid (by unfold dyOk; rw [hok, hx]; rfl)
      obtain ⟨hx1, hx2⟩ : 0 ≤ x ∧ x ≤ 60 := inB_iff.1 hx
      obtain ⟨D, rfl⟩ : ∃ D : Nat, x = (D : Int) := ⟨x.toNat, by omega⟩
      obtain ⟨hfo, hn12, hFo⟩ := al_parts hok
      have HOK := Lib.hid (fun k => dyF_ok (g := g) hf hfo hFo k)
      have HDY := Lib.hid (fun (f : Fd) (hf : f.Wf) (hok : okF f = true) (hFo : ∀ i, i < n → flockOk f (F i) = true) (c : Nat) (w : World) G I => l02Day_any f hf hok g hg n hn12 F hF hFo c d cp w G I)
      clear hok hcode hx hfo hFo hx1
      go_enter Tryd.func27, Tryd.ntmps27
      go_upto_region 1 with (fail)
      obtain ⟨W, hW, M⟩ := open3 w (fcells f) 30 (acells .i16 100 g) 36 Tryd.zeroCells30 30
      rw [hW]; clear hW
      go_upto_region 6 with (first
        | (go_at_call 53; refine (HAL.out w.heap.size (w.heap.size + 1) _ (M.at 0 rfl) (M.at 1 rfl) (HI.out.later M.below)).mono ?_; rintro e w1 ⟨rfl, rfl⟩; rw [HC.out])
        | (go_at_call 57; refine (l00In_any _ _ _ _).mono ?_; rintro e w1 ⟨rfl, rfl⟩; rw [HX.out]))
      obtain ⟨vb, hvb⟩ : ∃ vb, W.heap.size = vb := ⟨_, rfl⟩
      have hlow : w.heap.size + 1 + 1 < vb := by rw [← hvb]; exact (M.at 2 rfl).lt
      have R0 : (W.alloc (.cells #[] 2)).ownsRow vb 2 1 (.slice (some ⟨vb, 0, none⟩) 0 0) 0 [] := by rw [← hvb]; exact World.ownsRow_made W #[] 0 (Nat.le_refl _) (Nat.zero_le _) (by simp)
      go_upto_region 7 with (fail)
      have M1 : Mem w (W.alloc (.cells #[] 2)) [⟨w.heap.size, fcells (dyF f g n F 0), 30⟩, ⟨w.heap.size + 1, acells .i16 100 g, 36⟩, ⟨w.heap.size + 1 + 1, Tryd.zeroCells30, 30⟩] := M.other _
      have Z1 : vb ≤ (W.alloc (.cells #[] 2)).heap.size := by simp; omega
      try rw [hvb]
      generalize W.alloc (.cells #[] 2) = W1 at R0 M1 Z1 ⊢
      clear M hvb
      replace R0 := Lib.hid R0
      go_wp2_with fail
      go_loopw [12, 13] (fun v i wr => ∃ k : Nat, k ≤ D ∧ i = .int .i64 k ∧ vb ≤ wr.heap.size ∧ Mem w wr [⟨w.heap.size, fcells (dyF f g n F k), 30⟩, ⟨w.heap.size + 1, acells .i16 100 g, 36⟩, ⟨w.heap.size + 1 + 1, Tryd.zeroCells30, 30⟩] ∧ Hid (wr.ownsRow vb 2 1 v k ((nums (dyE f g n F) k).map (Value.int .i64)))) (fun _ i _ => D - (intOf i).toNat)
      case atStart => exact ⟨0, by omega, rfl, Z1, M1, R0⟩
      case round =>
        clear M1 R0 Z1
        obtain ⟨k, hk, rfl, hZ, M, hO⟩ := hrel
        by_cases hlt : k < D
        · obtain ⟨FK, hFK⟩ : ∃ FK, dyF f g n F k = FK := ⟨_, rfl⟩
          obtain ⟨FN, hFN⟩ : ∃ FN, dyF f g n F (k + 1) = FN := ⟨_, rfl⟩
          have HFN := Lib.hid hFN
          obtain ⟨q1, q2, q3⟩ := HOK.out k
          obtain ⟨r1, _, _⟩ := HOK.out (k + 1)
          rw [hFK] at q1 q2 q3 M
          rw [hFN] at r1
          obtain ⟨s1, s2⟩ := dyF_sum q1
          obtain ⟨s3, s4⟩ := dyF_sum r1
          have eE : dyE f g n F k = sumD FK.S 100 - sumD FN.S 100 := by rw [← hFK, ← hFN]; rfl
          have eN : fdA FK g F n = FN := by rw [← hFN, ← hFK]; rfl
          obtain ⟨A0, hA0⟩ : ∃ A0, sumD FK.S 100 = A0 := ⟨_, rfl⟩
          obtain ⟨A1, hA1⟩ : ∃ A1, sumD FN.S 100 = A1 := ⟨_, rfl⟩
          obtain ⟨ev, hev⟩ : ∃ ev, A0 - A1 = ev := ⟨_, rfl⟩
          have hwr : IntKind.i64.wrap (A0 - A1) = ev := by rw [← hev]; exact IntWalk.i64_in _ (by omega)
          have HEV : Hid (nums (dyE f g n F) (k + 1) = nums (dyE f g n F) k ++ [ev]) := Lib.hid (by rw [nums_succD, eE, hA0, hA1, hev])
          have HS0 := Lib.hid (fun (b : Nat) (w : World) B => by have h := l01SumD_any FK q1 b w B; rw [hA0] at h; exact h)
          have HS1 := Lib.hid (fun (b : Nat) (w : World) B => by have h := l01SumD_any FN r1 b w B; rw [hA1] at h; exact h)
          have HFE : Hid (∀ (c : Nat) (w9 : World) (G : Blk w9 c (acells .i16 100 g) 36) (I : InS w9 d 0 n ksFlock F), Calls Tryd.prog 54 #[.agg (fcells FK), .pointer (some ⟨c, 0, none⟩), .slice (some ⟨d, 0, none⟩) n cp] w9 fun e w' => ∃ v, e = .returned (.tuple #[.agg (fcells FN), v]) ∧ Below w9.heap.size w9 w') := Lib.hid (fun c w9 G I => (HDY.out FK q2 q1 q3 c w9 G I).mono (fun e w' h => by
            obtain ⟨v, h1, _, h3⟩ := h
            rw [eN] at h1
            exact ⟨v, h1, h3⟩))
          clear hFK hFN q1 q2 q3 r1 s1 s2 s3 s4 eE eN hA0 hA1 hev
          have ok1 : True := trivial
          go_upto_region 12 with (first
            | (clear ok1; go_at_call 58; refine (HS0.out w.heap.size _ (M.at 0 rfl)).mono ?_; rintro e w1 ⟨rfl, rfl⟩)
            | (refine wpList_load_part rfl 30 _ rfl w.heap.size 0 rfl (fcells FK) _ (M.at 0 rfl).whole Tryd.underlying30 rfl (by rw [fcells_size]; exact sizeFd) ?_)
            | (go_at_call 54; refine (HFE.out _ _ (M.at 1 rfl) (HI.out.later M.below)).mono ?_; rintro e W3 ⟨v3, rfl, hb⟩; have MA := (M.call hb).alloc Tryd.zeroCells30 30; have OA := own_later hO.out hb; have Z3 := Nat.le_trans hZ hb.size; clear hb)
            | (refine wpList_store_row rfl 30 _ _ rfl W3.heap.size (fcells FN) rfl rfl 30 _ (MA.at 3 rfl) (by rw [fcells_size]; exact sizeFd) (by rw [hz.out, fcells_size]) (fcells_one _) ?_; have MB := MA.row 3 rfl (fcells FN); have OB := own_later OA (below_row ((Below.refl W3.heap.size W3).alloc (Nat.le_refl _) (.cells Tryd.zeroCells30 30)) (Nat.le_refl _) (fcells FN)); clear MA OA))
          obtain ⟨fb, hfb⟩ : ∃ fb, W3.heap.size = fb := ⟨_, rfl⟩
          try rw [hfb] at MB OB ⊢
          have Z4 : vb ≤ (World.setRow (W3.alloc (.cells Tryd.zeroCells30 30)) fb (fcells FN)).heap.size := by simp; omega
          generalize World.setRow _ _ _ = W4 at MB OB Z4 ⊢
          go_upto_region 13 with (first
            | (refine wpList_load_part rfl 30 _ rfl fb 0 rfl (fcells FN) _ (MB.at 3 rfl).whole Tryd.underlying30 rfl (by rw [fcells_size]; exact sizeFd) ?_)
            | (refine wpList_store_row rfl 30 _ _ rfl w.heap.size (fcells FN) rfl rfl 30 _ (MB.at 0 rfl) (by rw [fcells_size]; exact sizeFd) (by simp only [fcells_size]) (fcells_one _) ?_; have MC := MB.row 0 rfl (fcells FN); have OC := own_row OB (by omega : w.heap.size < vb) (fcells FN); have Z5 : vb ≤ (W4.setRow w.heap.size (fcells FN)).heap.size := (by simp; exact Z4); clear MB OB))
          generalize World.setRow _ _ _ = W5 at MC OC Z5 ⊢
          have MD : Mem w W5 [⟨w.heap.size, fcells FN, 30⟩, ⟨w.heap.size + 1, acells .i16 100 g, 36⟩, ⟨w.heap.size + 1 + 1, Tryd.zeroCells30, 30⟩] := Mem.frontF MC
          have O5 := Lib.hid OC
          clear MC OC M hO
          go_wp2_with (first
            | (go_at_call 58; refine (HS1.out w.heap.size _ (MD.at 0 rfl)).mono ?_; rintro e w1 ⟨rfl, rfl⟩)
            | (at_builtin; refine wpList_append_own _ rfl _ _ 56 rfl vb 2 i0 (.int .i64 0) 1 8 Tryd.underlying56 hinf hy0 hy1 hy2 rfl (by decide) _ _ _ rfl (O5.out.alloc _) ⟨W5.heap.size, 0, none⟩ 1 1 [.int .i64 ev] rfl rfl ?c1 ?c2 ?c3 ?c4 ?c5 ?_))
          try (case c1 => exact row_new W5 [.int .i64 ev] 2)
          try (case c2 => first | rfl | (intro u hu; simp at hu; subst hu; rfl))
          try (case c3 => first | (unfold maxLen; omega) | omega)
          try (case c4 => first | omega | (simp; omega))
          try (case c5 => first | (simp; omega) | omega)
          intro v2 w2 ho2 hg2 _
          have M8 := Mem.ownG (MD.other (.cells #[.int .i64 ev] 2)) (O5.out.alloc _) hg2 (by omega) (by
            intro y hy
            simp only [List.mem_cons, List.mem_nil_iff, or_false] at hy
            rcases hy with rfl | rfl | rfl <;> first | exact (by decide : (30 : TypeId) ≠ 2) | exact (by decide : (36 : TypeId) ≠ 2))
          have O8 : Hid (w2.ownsRow vb 2 1 v2 (k + 1) ((nums (dyE f g n F) (k + 1)).map (Value.int .i64))) := Lib.hid (by rw [HEV.out, List.map_append]; exact ho2)
          have Z9 : vb ≤ w2.heap.size := by have := hg2.size; simp at this; omega
          clear ho2 hg2 O5 MD
          go_wp2_with fail
          go_roundw
          case rel => exact ⟨k + 1, by omega, by go_num, Z9, by rw [HFN.out]; exact M8, O8⟩
          case measure => simp [intOf]; omega
        · obtain rfl : k = D := by omega
          go_wp2_with (first
            | (refine wpList_load_part rfl 30 _ rfl w.heap.size 0 rfl (fcells (dyF f g n F k)) _ (M.at 0 rfl).whole Tryd.underlying30 rfl (by rw [fcells_size]; exact sizeFd) ?_)
            | (refine wpList_store_row rfl 30 _ _ rfl (w.heap.size + 1 + 1) (fcells (dyF f g n F k)) rfl rfl 30 _ (M.at 2 rfl) (by rw [fcells_size]; exact sizeFd) (by rw [hz.out, fcells_size]) (fcells_one _) ?_; have MX := M.row 2 rfl (fcells (dyF f g n F k)); have OX := own_row hO.out (by omega : w.heap.size + 1 + 1 < vb) (fcells (dyF f g n F k))))
          refine bodyPost_ret (results_row_tmp2 rfl _ _ (w.heap.size + 1 + 1) 30 _ _ _ rfl (MX.at 2 rfl) Tryd.underlying30 rfl (by rw [fcells_size]; exact sizeFd)) rfl ?_
          exact dyP_ok HB.out OX (by omega) MX.below

/-- The seeds eaten so far: days that are done; the day's visits that are counted. -/
def dyP (e : Nat → Int) (k : Nat) : Nat → Int := fun q => if q < k then e q else 0
def dyJ (e : Nat → Int) (k : Nat) (y : Int) : Nat → Int := fun q => if q = k then y else dyP e k q
theorem dyJ_zero (e : Nat → Int) (k : Nat) : dyJ e k 0 = dyP e k := by
  funext q
  unfold dyJ dyP
  by_cases h : q = k
  · rw [if_pos h, if_neg (by omega)]
  · rw [if_neg h]
theorem dyJ_set (e : Nat → Int) (k : Nat) (y z : Int) : (fun q => if q = k then z else dyJ e k y q) = dyJ e k z := by
  funext q
  unfold dyJ
  by_cases h : q = k
  · rw [if_pos h, if_pos h]
  · rw [if_neg h, if_neg h, if_neg h]
theorem dyJ_full (e : Nat → Int) (k : Nat) : dyJ e k (e k) = dyP e (k + 1) := by
  funext q
  unfold dyJ dyP
  by_cases h : q = k
  · rw [if_pos h, if_pos (by omega), h]
  · rw [if_neg h]
    by_cases h2 : q < k
    · rw [if_pos h2, if_pos (by omega)]
    · rw [if_neg h2, if_neg (by omega)]
theorem dyP_all (e : Nat → Int) (D : Nat) : acells .i64 D (dyP e D) = acells .i64 D e := by
  unfold acells
  refine congrArg _ (List.map_congr_left (fun i hi => ?_))
  have := List.mem_range.1 hi
  simp only [dyP, if_pos this]
theorem sumD_le {G : Nat → Int} : ∀ m, (∀ i, i < m → -32768 ≤ G i ∧ G i ≤ 32767) → -32768 * (m : Int) ≤ sumD G m ∧ sumD G m ≤ 32767 * (m : Int)
  | 0, _ => ⟨by show _ ≤ (0 : Int); omega, by show (0 : Int) ≤ _; omega⟩
  | m + 1, h => by
    have h1 := sumD_le m (fun i hi => h i (by omega))
    have h2 := h m (by omega)
    rw [sumD_succ]
    omega

theorem dyJ_at (e : Nat → Int) (k : Nat) (y : Int) : dyJ e k y k = y := by unfold dyJ; rw [if_pos rfl]
set_option maxRecDepth 100000 in
set_option maxHeartbeats 8000000 in
theorem implDays (f : Fd) (hf : f.Wf) (g : Nat → Int) (hg : Wf16 g) (n : Nat) (hn : n ≤ 2 ^ 40) (F : Nat → Nat → Int) (hF : WfS ksFlock n F) (x : Int) (d cp : Nat) (A : Nat → Addr) (w : World) (T0 : TabAt w) (S0 : Sents w A) (I : InS w d 0 n ksFlock F) : Calls Tryd.prog 28 #[.agg (fcells f), .agg (acells .i16 100 g), .slice (some ⟨d, 0, none⟩) n cp, .int .i64 x] w (DyP f g n F x w) := by
  have S := Lib.hid S0
  have T := Lib.hid T0
  have HI := Lib.hid I
  clear S0 T0 I
  have hif := isIfaceErr
  have hz : Hid (Tryd.zeroCells30.size = 202) := Lib.hid (by rw [zeroFd, fcells_size])
  have hz1 : Hid (Tryd.zeroCells30.all (·.oneCell') = true) := Lib.hid (by rw [zeroFd]; exact fcells_one _)
  have HCB := Lib.hid (fun (eb : Nat) (w : World) T S I E => checkBirds1 f hf n hn F hF g hg A d cp eb 36 w T S I E)
  cases hok : alOk f g n F with
  | false =>
    have HA := Lib.hid hok
    have HB : Hid (dyOk f g n F x = false) := Lib.hid (by unfold dyOk; rw [hok]; rfl)
    have HK : Hid (dyCode f g n F x = 1) := Lib.hid (by unfold dyCode; rw [hok]; rfl)
    clear hok
    go_enter Tryd.func28, Tryd.ntmps28
    go_upto_region 1 with (fail)
    obtain ⟨W, hW, M⟩ := open3 w (fcells f) 30 (acells .i16 100 g) 36 Tryd.zeroCells30 30
    rw [hW]; clear hW
    have oa1 : True := trivial
    have oa2 : True := trivial
    have oa3 : True := trivial
    go_wp2_with (first
      | (clear oa1; refine wpList_load_part rfl 30 _ rfl w.heap.size 0 rfl (fcells f) _ (M.at 0 rfl).whole Tryd.underlying30 rfl (by rw [fcells_size]; exact sizeFd) ?_)
      | (clear oa2; refine wpList_load_part rfl 36 _ rfl (w.heap.size + 1) 0 rfl (acells .i16 100 g) _ (M.at 1 rfl).whole Tryd.underlying36 rfl (by rw [acells_size]; exact sizeE) ?_)
      | (clear oa3; refine wpList_buildRow rfl 110 36 _ rfl (acells .i16 100 g) rfl Tryd.underlying110 (by rw [acells_size]; exact sizeE) (by rw [acells_size]; kernel_rfl) (by rw [acells_size]; omega) (by rw [acells_size]; omega) ?_; have MB0 := M.alloc (acells .i16 100 g) 36)
      | (go_at_call 44; refine (HCB.out W.heap.size _ (T.out.later MB0.below) (S.out.later MB0.below) (HI.out.later MB0.below) (MB0.at 3 rfl)).mono ?_; rintro e W2 ⟨rfl, hb⟩; rw [okBirdsL, HA.out]; simp only [errIf, Bool.false_eq_true, if_false]; have M2 := MB0.call hb; clear hb MB0)
      | (go_at_call 45; refine (codeOf_err A 1 (by omega) (by omega) _ (S.out.later M2.below)).mono ?_; rintro e W9 ⟨rfl, rfl⟩)
      | (refine wpList_store_row rfl 30 _ _ rfl (w.heap.size + 1 + 1) Tryd.zeroCells30 rfl rfl 30 _ (M2.at 2 rfl) (by rw [hz.out]; exact sizeFd) (by rw [hz.out]) hz1.out ?_; have MX := M2.row 2 rfl Tryd.zeroCells30; clear M2))
    refine bodyPost_ret (results_row_tmp2 rfl _ _ (w.heap.size + 1 + 1) 30 _ _ _ rfl (MX.at 2 rfl) Tryd.underlying30 rfl (by rw [hz.out]; exact sizeFd)) rfl ?_
    exact dyP_bad HB.out HK.out _ _ MX.below
  | true =>
    have HA := Lib.hid hok
    cases hx : dyIn x with
    | false =>
      have HB : Hid (dyOk f g n F x = false) := Lib.hid (by unfold dyOk; rw [hok, hx]; rfl)
      have HK : Hid (dyCode f g n F x = 2) := Lib.hid (by unfold dyCode; rw [hok, hx]; rfl)
      have hxx : ¬ (0 ≤ x ∧ x ≤ 60) := fun h => by rw [dyIn, inB_iff.2 h] at hx; exact absurd hx (by decide)
      clear hok hx
      by_cases hx0 : x < 0
      · have t0 : decide (x < 0) = true := decide_eq_true hx0
        clear hxx
        go_enter Tryd.func28, Tryd.ntmps28
        go_upto_region 1 with (fail)
        obtain ⟨W, hW, M⟩ := open3 w (fcells f) 30 (acells .i16 100 g) 36 Tryd.zeroCells30 30
        rw [hW]; clear hW
        have oa1 : True := trivial
        have oa2 : True := trivial
        have oa3 : True := trivial
        go_upto_region 4 with (first
          | (clear oa1; refine wpList_load_part rfl 30 _ rfl w.heap.size 0 rfl (fcells f) _ (M.at 0 rfl).whole Tryd.underlying30 rfl (by rw [fcells_size]; exact sizeFd) ?_)
          | (clear oa2; refine wpList_load_part rfl 36 _ rfl (w.heap.size + 1) 0 rfl (acells .i16 100 g) _ (M.at 1 rfl).whole Tryd.underlying36 rfl (by rw [acells_size]; exact sizeE) ?_)
          | (clear oa3; refine wpList_buildRow rfl 110 36 _ rfl (acells .i16 100 g) rfl Tryd.underlying110 (by rw [acells_size]; exact sizeE) (by rw [acells_size]; kernel_rfl) (by rw [acells_size]; omega) (by rw [acells_size]; omega) ?_; have MB0 := M.alloc (acells .i16 100 g) 36)
          | (go_at_call 44; refine (HCB.out W.heap.size _ (T.out.later MB0.below) (S.out.later MB0.below) (HI.out.later MB0.below) (MB0.at 3 rfl)).mono ?_; rintro e W2 ⟨rfl, hb⟩; rw [okBirdsL, HA.out]; simp only [errIf, if_true]; have M2 := MB0.call hb; clear hb MB0))
        have c2 := (S.out.later M2.below).v2
        go_wp2_with (first
          | (go_at_call 45; refine (codeOf_err A 2 (by omega) (by omega) _ (S.out.later M2.below)).mono ?_; rintro e W9 ⟨rfl, rfl⟩)
          | (refine wpList_store_row rfl 30 _ _ rfl (w.heap.size + 1 + 1) Tryd.zeroCells30 rfl rfl 30 _ (M2.at 2 rfl) (by rw [hz.out]; exact sizeFd) (by rw [hz.out]) hz1.out ?_; have MX := M2.row 2 rfl Tryd.zeroCells30; clear M2))
        refine bodyPost_ret (results_row_tmp2 rfl _ _ (w.heap.size + 1 + 1) 30 _ _ _ rfl (MX.at 2 rfl) Tryd.underlying30 rfl (by rw [hz.out]; exact sizeFd)) rfl ?_
        exact dyP_bad HB.out HK.out _ _ MX.below
      · have t0 : decide (x < 0) = false := decide_eq_false hx0
        have t1 : decide (60 < x) = true := decide_eq_true (by omega)
        clear hxx
        go_enter Tryd.func28, Tryd.ntmps28
        go_upto_region 1 with (fail)
        obtain ⟨W, hW, M⟩ := open3 w (fcells f) 30 (acells .i16 100 g) 36 Tryd.zeroCells30 30
        rw [hW]; clear hW
        have oa1 : True := trivial
        have oa2 : True := trivial
        have oa3 : True := trivial
        go_upto_region 4 with (first
          | (clear oa1; refine wpList_load_part rfl 30 _ rfl w.heap.size 0 rfl (fcells f) _ (M.at 0 rfl).whole Tryd.underlying30 rfl (by rw [fcells_size]; exact sizeFd) ?_)
          | (clear oa2; refine wpList_load_part rfl 36 _ rfl (w.heap.size + 1) 0 rfl (acells .i16 100 g) _ (M.at 1 rfl).whole Tryd.underlying36 rfl (by rw [acells_size]; exact sizeE) ?_)
          | (clear oa3; refine wpList_buildRow rfl 110 36 _ rfl (acells .i16 100 g) rfl Tryd.underlying110 (by rw [acells_size]; exact sizeE) (by rw [acells_size]; kernel_rfl) (by rw [acells_size]; omega) (by rw [acells_size]; omega) ?_; have MB0 := M.alloc (acells .i16 100 g) 36)
          | (go_at_call 44; refine (HCB.out W.heap.size _ (T.out.later MB0.below) (S.out.later MB0.below) (HI.out.later MB0.below) (MB0.at 3 rfl)).mono ?_; rintro e W2 ⟨rfl, hb⟩; rw [okBirdsL, HA.out]; simp only [errIf, if_true]; have M2 := MB0.call hb; clear hb MB0))
        have c2 := (S.out.later M2.below).v2
        go_wp2_with (first
          | (go_at_call 45; refine (codeOf_err A 2 (by omega) (by omega) _ (S.out.later M2.below)).mono ?_; rintro e W9 ⟨rfl, rfl⟩)
          | (refine wpList_store_row rfl 30 _ _ rfl (w.heap.size + 1 + 1) Tryd.zeroCells30 rfl rfl 30 _ (M2.at 2 rfl) (by rw [hz.out]; exact sizeFd) (by rw [hz.out]) hz1.out ?_; have MX := M2.row 2 rfl Tryd.zeroCells30; clear M2))
        refine bodyPost_ret (results_row_tmp2 rfl _ _ (w.heap.size + 1 + 1) 30 _ _ _ rfl (MX.at 2 rfl) Tryd.underlying30 rfl (by rw [hz.out]; exact sizeFd)) rfl ?_
        exact dyP_bad HB.out HK.out _ _ MX.below
    | true =>
      have HB : Hid (dyOk f g n F x = true) := Lib.hid (by unfold dyOk; rw [hok, hx]; rfl)
      obtain ⟨hx1, hx2⟩ : 0 ≤ x ∧ x ≤ 60 := inB_iff.1 hx
      obtain ⟨D, rfl⟩ : ∃ D : Nat, x = (D : Int) := ⟨x.toNat, by omega⟩
      have t0 : decide ((D : Int) < 0) = false := decide_eq_false (by omega)
      have t1 : decide (60 < (D : Int)) = false := decide_eq_false (by omega)
      obtain ⟨hfo, hn12, hFo⟩ := al_parts hok
      have HOK := Lib.hid (fun k => dyF_ok (g := g) hf hfo hFo k)
      have HSM := Lib.hid (fun k => dyE_sum (g := g) (n := n) hf hfo hFo k)
      have HFA := Lib.hid (fun (f : Fd) (hf : f.Wf) (hok : okF f = true) (hFo : ∀ i, i < n → flockOk f (F i) = true) (w : World) S I => fedAll_any f hf hok g hg n hn12 F hF hFo d cp A w S I)
      clear hok hx hfo hFo hx1
      go_enter Tryd.func28, Tryd.ntmps28
      go_upto_region 1 with (fail)
      obtain ⟨W, hW, M⟩ := open3 w (fcells f) 30 (acells .i16 100 g) 36 Tryd.zeroCells30 30
      rw [hW]; clear hW
      have oa1 : True := trivial
      have oa2 : True := trivial
      have oa3 : True := trivial
      go_upto_region 6 with (first
        | (clear oa1; refine wpList_load_part rfl 30 _ rfl w.heap.size 0 rfl (fcells f) _ (M.at 0 rfl).whole Tryd.underlying30 rfl (by rw [fcells_size]; exact sizeFd) ?_)
        | (clear oa2; refine wpList_load_part rfl 36 _ rfl (w.heap.size + 1) 0 rfl (acells .i16 100 g) _ (M.at 1 rfl).whole Tryd.underlying36 rfl (by rw [acells_size]; exact sizeE) ?_)
        | (clear oa3; refine wpList_buildRow rfl 110 36 _ rfl (acells .i16 100 g) rfl Tryd.underlying110 (by rw [acells_size]; exact sizeE) (by rw [acells_size]; kernel_rfl) (by rw [acells_size]; omega) (by rw [acells_size]; omega) ?_; have MB0 := M.alloc (acells .i16 100 g) 36)
        | (go_at_call 44; refine (HCB.out W.heap.size _ (T.out.later MB0.below) (S.out.later MB0.below) (HI.out.later MB0.below) (MB0.at 3 rfl)).mono ?_; rintro e W2 ⟨rfl, hb⟩; rw [okBirdsL, HA.out]; simp only [errIf, if_true]; have M2 := MB0.call hb; clear hb MB0))
      obtain ⟨xe, hxe⟩ : ∃ xe, W.heap.size = xe := ⟨_, rfl⟩
      rw [hxe] at M2
      go_upto_region 7 with (first
        | (refine wpList_load_part rfl 30 _ rfl w.heap.size 0 rfl (fcells f) _ (M2.at 0 rfl).whole Tryd.underlying30 rfl (by rw [fcells_size]; exact sizeFd) ?_)
        | (refine wpList_store_row rfl 30 _ _ rfl W2.heap.size (fcells f) rfl rfl 30 _ ((M2.alloc Tryd.zeroCells30 30).at 4 rfl) (by rw [fcells_size]; exact sizeFd) (by rw [hz.out, fcells_size]) (fcells_one _) ?_))
      have M5 := (M2.alloc Tryd.zeroCells30 30).row 4 rfl (fcells f)
      obtain ⟨lf, hlf⟩ : ∃ lf, W2.heap.size = lf := ⟨_, rfl⟩
      try rw [hlf] at M5 ⊢
      generalize World.setRow _ _ _ = W5 at M5 ⊢
      clear hlf
      obtain ⟨eb, heb⟩ : ∃ eb, W5.heap.size = eb := ⟨_, rfl⟩
      have hle : lf < eb := by rw [← heb]; exact (M5.at 4 rfl).lt
      obtain ⟨ED, hED⟩ : ∃ ED, dyE f g n F = ED := ⟨_, rfl⟩
      have M6 := M5.alloc (acells .i64 D (fun _ => 0)) 2
      go_wp2_with (refine wpList_make (BY := 8) rfl 56 2 _ rfl D rfl [.i64] Tryd.underlying56 (by kernel_rfl) (by kernel_rfl) (by omega) (by omega) ?_; rw [scells_nums D (fun _ => 0)])
      rw [heb] at M6
      try rw [heb]
      have hwl : w.heap.size ≤ eb := by rw [← heb]; exact M5.below.size
      generalize World.alloc _ _ = W6 at M6 ⊢
      have M7 : Mem w W6 [⟨w.heap.size, fcells f, 30⟩, ⟨w.heap.size + 1, acells .i16 100 g, 36⟩, ⟨w.heap.size + 1 + 1, Tryd.zeroCells30, 30⟩, ⟨xe, acells .i16 100 g, 36⟩, ⟨lf, fcells (dyF f g n F 0), 30⟩, ⟨eb, acells .i64 D (dyP ED 0), 2⟩] := M6
      clear M5 M6 heb M2 M
      go_loopw [42] (fun i wr => ∃ k : Nat, k ≤ D ∧ i = .int .i64 k ∧ Mem w wr [⟨w.heap.size, fcells f, 30⟩, ⟨w.heap.size + 1, acells .i16 100 g, 36⟩, ⟨w.heap.size + 1 + 1, Tryd.zeroCells30, 30⟩, ⟨xe, acells .i16 100 g, 36⟩, ⟨lf, fcells (dyF f g n F k), 30⟩, ⟨eb, acells .i64 D (dyP ED k), 2⟩]) (fun i _ => D - (intOf i).toNat)
      case atStart => exact ⟨0, by omega, rfl, M7⟩
      case round =>
        clear M7
        obtain ⟨k, hk, rfl, M⟩ := hrel
        by_cases hlt : k < D
        · obtain ⟨FK, hFK⟩ : ∃ FK, dyF f g n F k = FK := ⟨_, rfl⟩
          obtain ⟨FN, hFN⟩ : ∃ FN, dyF f g n F (k + 1) = FN := ⟨_, rfl⟩
          have HFN := Lib.hid hFN
          obtain ⟨q1, q2, q3⟩ := HOK.out k
          have e3 := HSM.out k
          rw [hFK] at q1 q2 q3 M e3
          rw [hED] at e3
          have eN : fdA FK g F n = FN := by rw [← hFN, ← hFK]; rfl
          have hvl := fdAR_len FK g F n
          obtain ⟨hvw, _⟩ := fdAR_wf (g := g) hn12 q2 q1 q3
          obtain ⟨m, hm⟩ : ∃ m, (fdAR FK g F n).length = m := ⟨_, rfl⟩
          obtain ⟨G, hG⟩ : ∃ G, rowsF (fdAR FK g F n) = G := ⟨_, rfl⟩
          have HFE : Hid (∀ (w9 : World) (S : Sents w9 A) (I : InS w9 d 0 n ksFlock F), Calls Tryd.prog 55 #[.agg (fcells FK), .agg (acells .i16 100 g), .slice (some ⟨d, 0, none⟩) n cp] w9 fun e w' => ∃ v, e = .returned (.tuple #[.agg (fcells FN), v]) ∧ w'.ownsRow w9.heap.size 32 3 v m (scells ksVisit m G).toList ∧ Below w9.heap.size w9 w') := Lib.hid (fun w9 S I => (HFA.out FK q2 q1 q3 w9 S I).mono (fun e w' h => by
            obtain ⟨v, h1, h2, h3⟩ := h
            rw [eN] at h1
            rw [hm, hG] at h2
            exact ⟨v, h1, h2, h3⟩))
          have HSU : Hid (sumD (fun i => G i 2) m = ED k) := Lib.hid (by rw [← e3, ← hm, ← hG]; rfl)
          rw [hm, hG] at hvw
          rw [hm] at hvl
          have HB2 : Hid (∀ i, i < m → -32768 ≤ G i 2 ∧ G i 2 ≤ 32767) := Lib.hid (fun i hi => bounds_i16 (hvw i hi 2 (by decide)))
          clear hFK hFN q1 q2 q3 e3 eN hvw hm hG
          have ok1 : True := trivial
          have ok2 : True := trivial
          go_upto_region 13 with (first
            | (clear ok1; refine wpList_load_part rfl 30 _ rfl lf 0 rfl (fcells FK) _ (M.at 4 rfl).whole Tryd.underlying30 rfl (by rw [fcells_size]; exact sizeFd) ?_)
            | (clear ok2; refine wpList_load_part rfl 36 _ rfl (w.heap.size + 1) 0 rfl (acells .i16 100 g) _ (M.at 1 rfl).whole Tryd.underlying36 rfl (by rw [acells_size]; exact sizeE) ?_)
            | (go_at_call 55; refine (HFE.out _ (S.out.later M.below) (HI.out.later M.below)).mono ?_; rintro e W3 ⟨v3, rfl, ho, hb⟩; have hlw := (M.at 4 rfl).lt; have hew := (M.at 5 rfl).lt; have MA := M.call hb; clear hb)
            | (refine wpList_store_row rfl 30 _ _ rfl lf (fcells FN) rfl rfl 30 _ (MA.at 4 rfl) (by rw [fcells_size]; exact sizeFd) (by simp only [fcells_size]) (fcells_one _) ?_; have MB := MA.row 4 rfl (fcells FN); have OB := own_row ho hlw (fcells FN); clear MA ho))
          generalize World.setRow _ _ _ = W4 at MB OB ⊢
          obtain ⟨p1, c1, rfl, hS⟩ := Sown (ks := ksVisit) OB
          have HS := Lib.hid (hS.weak (Nat.succ_le_of_lt hew))
          have MC : Mem w W4 [⟨w.heap.size, fcells f, 30⟩, ⟨w.heap.size + 1, acells .i16 100 g, 36⟩, ⟨w.heap.size + 1 + 1, Tryd.zeroCells30, 30⟩, ⟨xe, acells .i16 100 g, 36⟩, ⟨lf, fcells FN, 30⟩, ⟨eb, acells .i64 D (dyJ ED k (sumD (fun i => G i 2) 0)), 2⟩] := by
            show Mem w W4 [⟨w.heap.size, fcells f, 30⟩, ⟨w.heap.size + 1, acells .i16 100 g, 36⟩, ⟨w.heap.size + 1 + 1, Tryd.zeroCells30, 30⟩, ⟨xe, acells .i16 100 g, 36⟩, ⟨lf, fcells FN, 30⟩, ⟨eb, acells .i64 D (dyJ ED k 0), 2⟩]
            rw [dyJ_zero]; exact MB
          clear MB OB M hS hlw hew
          go_wp2_with fail
          go_loopw [54] (fun i wr => ∃ j : Nat, j ≤ m ∧ i = .int .i64 j ∧ Mem w wr [⟨w.heap.size, fcells f, 30⟩, ⟨w.heap.size + 1, acells .i16 100 g, 36⟩, ⟨w.heap.size + 1 + 1, Tryd.zeroCells30, 30⟩, ⟨xe, acells .i16 100 g, 36⟩, ⟨lf, fcells FN, 30⟩, ⟨eb, acells .i64 D (dyJ ED k (sumD (fun i => G i 2) j)), 2⟩] ∧ Hid (SO ksVisit 32 (eb + 1) wr p1 m G)) (fun i _ => m - (intOf i).toNat)
          case atStart => exact ⟨0, by omega, rfl, MC, HS⟩
          case round =>
            clear MC HS
            obtain ⟨j, hj, rfl, M, hS⟩ := hrel
            by_cases hjm : j < m
            · obtain ⟨q, hp1, hq1, hq2, hr⟩ := so_vis hS.out hjm
              subst hp1
              obtain ⟨y1, y2⟩ := sumD_le (G := fun i => G i 2) j (fun i hi => HB2.out i (by omega))
              have hyn := sumD_succ (fun i => G i 2) j
              obtain ⟨y, hy⟩ : ∃ y, sumD (fun i => G i 2) j = y := ⟨_, rfl⟩
              rw [hy] at M y1 y2 hyn
              have HYN := Lib.hid hyn
              obtain ⟨z1, z2⟩ := HB2.out j hjm
              have hcv : IntKind.i64.wrap (G j 2) = G j 2 := wrap_i64V (by omega) (by omega)
              have had : IntKind.i64.wrap (y + G j 2) = y + G j 2 := wrap_i64V (by omega) (by omega)
              clear hy hyn y1 y2 z1 z2
              go_upto_region 16 with (refine wpList_load_part rfl 32 _ rfl _ _ rfl (cVis (G j)) _ hr Tryd.underlying32 rfl (by kernel_rfl) ?_)
              have M1 := M.alloc (cVis (G j)) 32
              have S1 := Lib.hid (hS.out.later ((Below.refl wr.heap.size wr).alloc (Nat.le_refl _) (.cells (cVis (G j)) 32)))
              obtain ⟨xb, hxb⟩ : ∃ xb, xb = wr.heap.size := ⟨_, rfl⟩
              rw [← hxb] at M1 ⊢
              generalize World.alloc _ _ = W8 at M1 S1 ⊢
              clear M hxb hr hS hq2
              have MDr := M1.drew
              refine wp_region_rel_tail 9 (DL [dV (.slice (some ⟨eb, 0, none⟩) D D), dV (.int .i64 (k : Int)), dV (.pointer (some ⟨eb, 0 + k * 1, none⟩)), dV (.int .i64 y), dV (.pointer (some ⟨xb, 2, none⟩)), dV (.int .i16 (G j 2)), dV (.int .i64 (G j 2)), dV (.int .i64 (y + G j 2)), dV (.pointer (some ⟨eb, 0 + k * 1, none⟩))]) (fun w' => Mem w w' [⟨w.heap.size, fcells f, 30⟩, ⟨w.heap.size + 1, acells .i16 100 g, 36⟩, ⟨w.heap.size + 1 + 1, Tryd.zeroCells30, 30⟩, ⟨xe, acells .i16 100 g, 36⟩, ⟨lf, fcells FN, 30⟩, ⟨eb, acells .i64 D (dyJ ED k y), 2⟩, ⟨xb, cVis (G j), 32⟩] ∧ Below W8.heap.size W8 w') (by kernel_rfl) (by kernel_rfl) grows_memB
                (stays_DL (fun d hd => by
                  simp only [List.mem_cons, List.mem_nil_iff, or_false] at hd
                  rcases hd with rfl | rfl | rfl | rfl | rfl | rfl | rfl | rfl | rfl <;> exact stay_V)) ⟨MDr, (Below.refl _ _).drew⟩ ?_
              refine rel_val _ rfl rfl (fun _ _ => rfl) (fun _ => ?_)
              simp only [Act.put, List.setIfInBounds_toArray, List.set_cons_zero, List.set_cons_succ]
              refine rel_val _ rfl rfl (fun _ _ => rfl) (fun _ => ?_)
              simp only [Act.put, List.setIfInBounds_toArray, List.set_cons_zero, List.set_cons_succ]
              refine rel_index 56 2 _ _ rfl eb 0 D D 1 k rfl rfl hlt Tryd.underlying56 (by kernel_rfl) rfl rfl (fun _ => ?_)
              simp only [Act.put, List.setIfInBounds_toArray, List.set_cons_zero, List.set_cons_succ]
              refine rel_cell 2 _ rfl (eb) (0 + k * 1) rfl (.int .i64 y) rfl rfl (fun w' c => load_i64V _ _ _ w' c) (fun w' hw' => by have h := (hw'.1.at 5 rfl).cell (acells_get .i64 D (dyJ ED k y) k hlt); rw [dyJ_at] at h; rw [Nat.zero_add, Nat.mul_one]; exact h) (fun _ => ?_)
              simp only [Act.put, List.setIfInBounds_toArray, List.set_cons_zero, List.set_cons_succ]
              refine rel_val (.pointer (some ⟨xb, 2, none⟩)) rfl rfl (fun _ _ => by simp [execOp, Act.eval, go_sem]) (fun _ => ?_)
              simp only [Act.put, List.setIfInBounds_toArray, List.set_cons_zero, List.set_cons_succ]
              refine rel_cell 24 _ rfl (xb) (2) rfl (.int .i16 (G j 2)) rfl rfl (fun w' c => load_i16V _ _ _ w' c) (fun w' hw' => (hw'.1.at 6 rfl).cell (i := 2) (v := .int .i16 (G j 2)) rfl) (fun _ => ?_)
              simp only [Act.put, List.setIfInBounds_toArray, List.set_cons_zero, List.set_cons_succ]
              refine rel_val (.int .i64 (G j 2)) rfl rfl (fun w' _ => by simp [execOp, Act.eval, go_sem, hcv]) (fun _ => ?_)
              simp only [Act.put, List.setIfInBounds_toArray, List.set_cons_zero, List.set_cons_succ]
              refine rel_val (.int .i64 (y + G j 2)) rfl rfl (fun w' _ => by simp [execOp, Act.eval, go_sem, had]) (fun _ => ?_)
              simp only [Act.put, List.setIfInBounds_toArray, List.set_cons_zero, List.set_cons_succ]
              refine rel_index 56 2 _ _ rfl eb 0 D D 1 k rfl rfl hlt Tryd.underlying56 (by kernel_rfl) rfl rfl (fun _ => ?_)
              simp only [Act.put, List.setIfInBounds_toArray, List.set_cons_zero, List.set_cons_succ]
              refine rel_nil (fun W9 inv => ?_)
              have M8 := Mem.frontF (L := [⟨w.heap.size, fcells f, 30⟩, ⟨w.heap.size + 1, acells .i16 100 g, 36⟩, ⟨w.heap.size + 1 + 1, Tryd.zeroCells30, 30⟩, ⟨xe, acells .i16 100 g, 36⟩, ⟨lf, fcells FN, 30⟩, ⟨eb, acells .i64 D (dyJ ED k y), 2⟩]) inv.cls.1
              have S8 := Lib.hid (S1.out.later inv.cls.2)
              clear inv hcv had MDr M1 S1
              have d6 := (M8.at 5 rfl).cell (acells_get .i64 D (dyJ ED k y) k hlt)
              have f6 := (M8.at 5 rfl).free k
              have M9 := M8.set 5 k (.int .i64 (y + G j 2)) rfl _ (acells_set .i64 D (dyJ ED k y) k (y + G j 2) hlt)
              rw [dyJ_set] at M9
              have S9 := Lib.hid (SO.grownV S8.out (Ngrown_cell W9 eb k (.int .i64 (y + G j 2))) (fun b hb => by cases hb; intro h9; cases h9; omega))
              have HM9 : Hid (Mem w (W9.setCell ⟨eb, k, none⟩ (.int .i64 (y + G j 2))) [⟨w.heap.size, fcells f, 30⟩, ⟨w.heap.size + 1, acells .i16 100 g, 36⟩, ⟨w.heap.size + 1 + 1, Tryd.zeroCells30, 30⟩, ⟨xe, acells .i16 100 g, 36⟩, ⟨lf, fcells FN, 30⟩, ⟨eb, acells .i64 D (dyJ ED k (sumD (fun i => G i 2) (j + 1))), 2⟩]) := Lib.hid (by rw [HYN.out]; exact M9)
              clear M8 M9 S8
              change wpList _ _ _ [_] _ _
              simp only [Nat.zero_add, Nat.mul_one]
              go_wp2_with fail
              go_roundw
              case rel => exact ⟨j + 1, by omega, by go_num, HM9.out, S9⟩
              case measure => simp [intOf]; omega
            · obtain rfl : j = m := by omega
              rw [HSU.out, dyJ_full, ← HFN.out] at M
              have HM := Lib.hid M
              clear M
              go_wp2_with fail
              go_roundw
              case rel => exact ⟨k + 1, by omega, by go_num, HM.out⟩
              case measure => simp [intOf]; omega
        · obtain rfl : k = D := by omega
          have ok1 : True := trivial
          go_wp2_with (first
            | (clear ok1; refine wpList_load_part rfl 30 _ rfl lf 0 rfl (fcells (dyF f g n F k)) _ (M.at 4 rfl).whole Tryd.underlying30 rfl (by rw [fcells_size]; exact sizeFd) ?_)
            | (refine wpList_store_row rfl 30 _ _ rfl (w.heap.size + 1 + 1) (fcells (dyF f g n F k)) rfl rfl 30 _ (M.at 2 rfl) (by rw [fcells_size]; exact sizeFd) (by rw [hz.out, fcells_size]) (fcells_one _) ?_; have MX := M.row 2 rfl (fcells (dyF f g n F k))))
          refine bodyPost_ret (results_row_tmp2 rfl _ _ (w.heap.size + 1 + 1) 30 _ _ _ rfl (MX.at 2 rfl) Tryd.underlying30 rfl (by rw [fcells_size]; exact sizeFd)) rfl ?_
          subst hED
          have BX := MX.at 5 rfl
          rw [dyP_all] at BX
          exact dyP_blk HB.out BX hwl MX.below

end Go.Proofs.YtaioflkonpommaaDoor
