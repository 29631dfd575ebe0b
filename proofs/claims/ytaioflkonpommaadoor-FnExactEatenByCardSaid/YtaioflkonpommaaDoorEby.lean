import Derived.Test.YtaioflkonpommaaDoorEbyS
namespace Go.Proofs.YtaioflkonpommaaDoor
open Go Go.ChangeShapes Go.WideShapes Go.ChangeAt Go.RowKit Go.Shelf

def ebCode (f : Fd) (n : Nat) (F : Nat → Nat → Int) (m : Nat) (G : Nat → Nat → Int) : Int := if okFlocks f n F then (if ebA n m G then (if ebB m G then 0 else 4) else 2) else 1
def ebN (f : Fd) (n : Nat) (F : Nat → Nat → Int) (m : Nat) (G : Nat → Nat → Int) : Nat := if ebCode f n F m G = 0 then n else 0
theorem ebN_le (f : Fd) (n : Nat) (F : Nat → Nat → Int) (m : Nat) (G : Nat → Nat → Int) (hn : n ≤ 2 ^ 40) : ebN f n F m G ≤ 2 ^ 40 := by unfold ebN; split <;> omega
def EbP (f : Fd) (n : Nat) (F : Nat → Nat → Int) (m : Nat) (G : Nat → Nat → Int) (w : World) (e : Ending) (w' : World) : Prop :=
  ∃ p c, e = .returned (.tuple #[.slice p (ebN f n F m G) c, .int .i64 (ebCode f n F m G)]) ∧ NV w.heap.size w'.heap.size w' p (ebN f n F m G) (ebS G m) ∧ NW w.heap.size w'.heap.size w' p (ebN f n F m G) ∧ Below w.heap.size w w'
theorem ebP_bad {f : Fd} {n : Nat} {F : Nat → Nat → Int} {m : Nat} {G : Nat → Nat → Int} {w w' : World} {k : Int} (h : ebCode f n F m G = k) (hk : k ≠ 0) (p : Option Addr) (c : Nat) (hb : Below w.heap.size w w') : EbP f n F m G w (.returned (.tuple #[.slice p 0 c, .int .i64 k])) w' := by
  have hN : ebN f n F m G = 0 := by unfold ebN; rw [h, if_neg hk]
  exact ⟨p, c, by rw [hN, h], .inl hN, .inl hN, hb⟩
theorem ebP_ok {f : Fd} {n : Nat} {F : Nat → Nat → Int} {m : Nat} {G : Nat → Nat → Int} {w w' : World} (h : ebCode f n F m G = 0) {b : Nat} (hlo : w.heap.size ≤ b) (B : Blk w' b (acells .i64 n (ebS G m)) 2) (hb : Below w.heap.size w w') : EbP f n F m G w (.returned (.tuple #[.slice (some ⟨b, 0, none⟩) n n, .int .i64 0])) w' := by
  have hN : ebN f n F m G = n := by unfold ebN; rw [h, if_pos rfl]
  exact ⟨_, n, by rw [hN, h], by rw [hN]; exact .inr ⟨b, 0, rfl, hlo, B.lt, fun i hi => by rw [Nat.zero_add]; exact B.cell (acells_get _ _ _ i hi)⟩, by rw [hN]; exact .inr ⟨b, 0, _, rfl, hlo, B.lt, by rw [acells_size]; omega, B⟩, hb⟩
theorem ebA_to {n : Nat} {m : Nat} {G : Nat → Nat → Int} (h : ebA n m G = false) : ∃ i, i < m ∧ inB (G i 0) 0 ((n : Int) - 1) = false ∧ ∀ j, j < i → inB (G j 0) 0 ((n : Int) - 1) = true := by
  induction m with
  | zero => exact Bool.noConfusion (show true = false from h)
  | succ m ih =>
    cases h1 : ebA n m G with
    | false => obtain ⟨i, hi, h2, h3⟩ := ih h1; exact ⟨i, by omega, h2, h3⟩
    | true =>
      have h4 := allTo_iff.1 h1
      refine ⟨m, by omega, ?_, h4⟩
      cases h5 : inB (G m 0) 0 ((n : Int) - 1) with
      | false => rfl
      | true =>
        have : ebA n (m + 1) G = true := allTo_iff.2 (fun i hi => by
          by_cases e : i = m
          · subst e; exact h5
          · exact h4 i (by omega))
        rw [h] at this; exact absurd this (by decide)
theorem ebB_to {m : Nat} {G : Nat → Nat → Int} (h : ebB m G = false) : ∃ i, i < m ∧ G i 2 < 0 ∧ ∀ j, j < i → 0 ≤ G j 2 := by
  induction m with
  | zero => exact Bool.noConfusion (show true = false from h)
  | succ m ih =>
    cases h1 : ebB m G with
    | false => obtain ⟨i, hi, h2, h3⟩ := ih h1; exact ⟨i, by omega, h2, h3⟩
    | true =>
      have h4 := allTo_iff.1 h1
      refine ⟨m, by omega, ?_, fun j hj => of_decide_eq_true (h4 j hj)⟩
      by_cases h5 : 0 ≤ G m 2
      · have : ebB (m + 1) G = true := allTo_iff.2 (fun i hi => by
          by_cases e : i = m
          · subst e; exact decide_eq_true h5
          · exact h4 i (by omega))
        rw [h] at this; exact absurd this (by decide)
      · omega

def cvErr (A : Nat → Addr) (n m : Nat) (G : Nat → Nat → Int) : Value := if ebA n m G then (if ebB m G then .nilIface else errVal (A 4)) else errVal (A 2)
set_option maxRecDepth 100000 in
set_option maxHeartbeats 8000000 in
theorem checkVisits_any (n : Nat) (hn : n ≤ 2 ^ 40) (p0 : Option Addr) (c0 : Nat) (m : Nat) (hm : m ≤ 2 ^ 40) (G : Nat → Nat → Int) (hG : WfS ksVisit m G) (b c : Nat) (A : Nat → Addr) (w : World) (S0 : Sents w A) (I : InS w b 0 m ksVisit G) :
    Calls Tryd.prog 62 #[.slice p0 n c0, .slice (some ⟨b, 0, none⟩) m c] w fun e w' => e = .returned (cvErr A n m G) ∧ Below w.heap.size w w' := by
  have HI := Lib.hid I
  have S := Lib.hid S0
  have HG := Lib.hid (fun i (hi : i < m) => (⟨bounds_i8 (hG i hi 0 (by decide)), bounds_i16 (hG i hi 2 (by decide))⟩ : (-128 ≤ G i 0 ∧ G i 0 ≤ 127) ∧ -32768 ≤ G i 2 ∧ G i 2 ≤ 32767))
  clear I S0 hG
  cases hA : ebA n m G with
  | false =>
    have hE : cvErr A n m G = errVal (A 2) := by unfold cvErr; rw [hA, if_neg (by decide)]
    rw [hE]
    obtain ⟨z, hz, hz1, hz2⟩ := ebA_to hA
    have HZ1 := Lib.hid hz1
    have HZ2 := Lib.hid hz2
    clear hA hE hz1 hz2
    go_enter Tryd.func62, Tryd.ntmps62
    go_wp2_with fail
    go_loopw [11] (fun i wr => ∃ k : Nat, k ≤ z ∧ i = .int .i64 k ∧ Below w.heap.size w wr) (fun i _ => m - (intOf i).toNat)
    case atStart => exact ⟨0, by omega, rfl, Below.refl _ _⟩
    case round =>
      obtain ⟨k, hk, rfl, hbw⟩ := hrel
      have hlt : k < m := by omega
      have hr : wr.rangeAt b (0 + k * 3) (cVis (G k)).toList := InS.elem (ks := ksVisit) HI.out (by decide) hbw hlt
      rw [Nat.zero_add] at hr
      go_upto_region 4 with (refine wpList_load_part rfl 32 _ rfl _ _ rfl (cVis (G k)) _ hr Tryd.underlying32 rfl (by kernel_rfl) ?_)
      have M1 := (Mem.nil wr).alloc (cVis (G k)) 32
      obtain ⟨eb, heb⟩ : ∃ eb, eb = wr.heap.size := ⟨_, rfl⟩
      rw [← heb] at M1 ⊢
      have hb1 := hbw.alloc hbw.size (.cells (cVis (G k)) 32)
      generalize World.alloc _ _ = W4 at M1 hb1 ⊢
      have hc := (M1.at 0 rfl).cell (i := 0) (v := .int .i8 (G k 0)) rfl
      clear heb hr
      have hcv : IntKind.i64.wrap (G k 0) = G k 0 := by have := HG.out k hlt; exact wrap_i64V (by omega) (by omega)
      by_cases hkz : k < z
      · have hin := Lib.hid (HZ2.out k hkz)
        go_wp2_with (go_at_call 80; refine (hasFlock_any n hn (G k 0) _ _ _).mono ?_; rintro e w5 ⟨rfl, rfl⟩; rw [hin.out])
        go_roundw
        case rel => exact ⟨k + 1, by omega, by go_num, hb1⟩
        case measure => simp [intOf]; omega
      · obtain rfl : k = z := by omega
        have v2 := (S.out.later hb1).v2
        go_wp2_with (go_at_call 80; refine (hasFlock_any n hn (G k 0) _ _ _).mono ?_; rintro e w5 ⟨rfl, rfl⟩; rw [HZ1.out])
        go_ret
        exact ⟨rfl, hb1⟩
  | true =>
    have HA := Lib.hid (allTo_iff.1 hA)
    have hE : cvErr A n m G = if ebB m G then .nilIface else errVal (A 4) := by unfold cvErr; rw [hA, if_pos rfl]
    rw [hE]
    clear hA hE
    cases hB : ebB m G with
    | false =>
      rw [if_neg (by decide)]
      obtain ⟨z, hz, hz1, hz2⟩ := ebB_to hB
      have HZ2 := Lib.hid hz2
      clear hB hz2
      go_enter Tryd.func62, Tryd.ntmps62
      go_wp2_with fail
      go_loopw [11] (fun i wr => ∃ k : Nat, k ≤ m ∧ i = .int .i64 k ∧ Below w.heap.size w wr) (fun i _ => m - (intOf i).toNat)
      case atStart => exact ⟨0, by omega, rfl, Below.refl _ _⟩
      case round =>
        obtain ⟨k, hk, rfl, hbw⟩ := hrel
        by_cases hlt : k < m
        · have hin := Lib.hid (HA.out k hlt)
          have hr : wr.rangeAt b (0 + k * 3) (cVis (G k)).toList := InS.elem (ks := ksVisit) HI.out (by decide) hbw hlt
          rw [Nat.zero_add] at hr
          go_upto_region 4 with (refine wpList_load_part rfl 32 _ rfl _ _ rfl (cVis (G k)) _ hr Tryd.underlying32 rfl (by kernel_rfl) ?_)
          have M1 := (Mem.nil wr).alloc (cVis (G k)) 32
          obtain ⟨eb, heb⟩ : ∃ eb, eb = wr.heap.size := ⟨_, rfl⟩
          rw [← heb] at M1 ⊢
          have hb1 := hbw.alloc hbw.size (.cells (cVis (G k)) 32)
          generalize World.alloc _ _ = W4 at M1 hb1 ⊢
          have hc := (M1.at 0 rfl).cell (i := 0) (v := .int .i8 (G k 0)) rfl
          clear heb hr
          have hcv : IntKind.i64.wrap (G k 0) = G k 0 := by have := HG.out k hlt; exact wrap_i64V (by omega) (by omega)
          go_wp2_with (go_at_call 80; refine (hasFlock_any n hn (G k 0) _ _ _).mono ?_; rintro e w5 ⟨rfl, rfl⟩; rw [hin.out])
          go_roundw
          case rel => exact ⟨k + 1, by omega, by go_num, hb1⟩
          case measure => simp [intOf]; omega
        · obtain rfl : k = m := by omega
          go_wp2_with fail
          clear hlt
          obtain ⟨wo, hwo⟩ : ∃ wo, wo = wr := ⟨_, rfl⟩
          have hbo : Below w.heap.size w wo := hwo ▸ hbw
          rw [← hwo]
          clear hwo hbw hk
          go_loopw [25] (fun i wr => ∃ j : Nat, j ≤ z ∧ i = .int .i64 j ∧ Below w.heap.size w wr) (fun i _ => k - (intOf i).toNat)
          case atStart => exact ⟨0, by omega, rfl, hbo⟩
          case round =>
            obtain ⟨j, hj, rfl, hbw⟩ := hrel
            have hlt : j < k := by omega
            have hr : wr.rangeAt b (0 + j * 3) (cVis (G j)).toList := InS.elem (ks := ksVisit) HI.out (by decide) hbw hlt
            rw [Nat.zero_add] at hr
            go_upto_region 10 with (refine wpList_load_part rfl 32 _ rfl _ _ rfl (cVis (G j)) _ hr Tryd.underlying32 rfl (by kernel_rfl) ?_)
            have M1 := (Mem.nil wr).alloc (cVis (G j)) 32
            obtain ⟨eb, heb⟩ : ∃ eb, eb = wr.heap.size := ⟨_, rfl⟩
            rw [← heb] at M1 ⊢
            have hb1 := hbw.alloc hbw.size (.cells (cVis (G j)) 32)
            generalize World.alloc _ _ = W4 at M1 hb1 ⊢
            have hc := (M1.at 0 rfl).cell (i := 2) (v := .int .i16 (G j 2)) rfl
            clear heb hr
            by_cases hkz : j < z
            · have hin : ¬ (G j 2 < 0) := by have := HZ2.out j hkz; omega
              go_wp2_with fail
              go_roundw
              case rel => exact ⟨j + 1, by omega, by go_num, hb1⟩
              case measure => simp [intOf]; omega
            · obtain rfl : j = z := by omega
              have v4 := (S.out.later hb1).v4
              go_wp2_with fail
              go_ret
              exact ⟨rfl, hb1⟩
    | true =>
      rw [if_pos rfl]
      have HZ2 := Lib.hid (allTo_iff.1 hB)
      clear hB
      go_enter Tryd.func62, Tryd.ntmps62
      go_wp2_with fail
      go_loopw [11] (fun i wr => ∃ k : Nat, k ≤ m ∧ i = .int .i64 k ∧ Below w.heap.size w wr) (fun i _ => m - (intOf i).toNat)
      case atStart => exact ⟨0, by omega, rfl, Below.refl _ _⟩
      case round =>
        obtain ⟨k, hk, rfl, hbw⟩ := hrel
        by_cases hlt : k < m
        · have hin := Lib.hid (HA.out k hlt)
          have hr : wr.rangeAt b (0 + k * 3) (cVis (G k)).toList := InS.elem (ks := ksVisit) HI.out (by decide) hbw hlt
          rw [Nat.zero_add] at hr
          go_upto_region 4 with (refine wpList_load_part rfl 32 _ rfl _ _ rfl (cVis (G k)) _ hr Tryd.underlying32 rfl (by kernel_rfl) ?_)
          have M1 := (Mem.nil wr).alloc (cVis (G k)) 32
          obtain ⟨eb, heb⟩ : ∃ eb, eb = wr.heap.size := ⟨_, rfl⟩
          rw [← heb] at M1 ⊢
          have hb1 := hbw.alloc hbw.size (.cells (cVis (G k)) 32)
          generalize World.alloc _ _ = W4 at M1 hb1 ⊢
          have hc := (M1.at 0 rfl).cell (i := 0) (v := .int .i8 (G k 0)) rfl
          clear heb hr
          have hcv : IntKind.i64.wrap (G k 0) = G k 0 := by have := HG.out k hlt; exact wrap_i64V (by omega) (by omega)
          go_wp2_with (go_at_call 80; refine (hasFlock_any n hn (G k 0) _ _ _).mono ?_; rintro e w5 ⟨rfl, rfl⟩; rw [hin.out])
          go_roundw
          case rel => exact ⟨k + 1, by omega, by go_num, hb1⟩
          case measure => simp [intOf]; omega
        · obtain rfl : k = m := by omega
          go_wp2_with fail
          clear hlt
          obtain ⟨wo, hwo⟩ : ∃ wo, wo = wr := ⟨_, rfl⟩
          have hbo : Below w.heap.size w wo := hwo ▸ hbw
          rw [← hwo]
          clear hwo hbw hk
          go_loopw [25] (fun i wr => ∃ j : Nat, j ≤ k ∧ i = .int .i64 j ∧ Below w.heap.size w wr) (fun i _ => k - (intOf i).toNat)
          case atStart => exact ⟨0, by omega, rfl, hbo⟩
          case round =>
            obtain ⟨j, hj, rfl, hbw⟩ := hrel
            by_cases hlt : j < k
            · have hin : ¬ (G j 2 < 0) := by have := of_decide_eq_true (HZ2.out j hlt); omega
              have hr : wr.rangeAt b (0 + j * 3) (cVis (G j)).toList := InS.elem (ks := ksVisit) HI.out (by decide) hbw hlt
              rw [Nat.zero_add] at hr
              go_upto_region 10 with (refine wpList_load_part rfl 32 _ rfl _ _ rfl (cVis (G j)) _ hr Tryd.underlying32 rfl (by kernel_rfl) ?_)
              have M1 := (Mem.nil wr).alloc (cVis (G j)) 32
              obtain ⟨eb, heb⟩ : ∃ eb, eb = wr.heap.size := ⟨_, rfl⟩
              rw [← heb] at M1 ⊢
              have hb1 := hbw.alloc hbw.size (.cells (cVis (G j)) 32)
              generalize World.alloc _ _ = W4 at M1 hb1 ⊢
              have hc := (M1.at 0 rfl).cell (i := 2) (v := .int .i16 (G j 2)) rfl
              clear heb hr
              go_wp2_with fail
              go_roundw
              case rel => exact ⟨j + 1, by omega, by go_num, hb1⟩
              case measure => simp [intOf]; omega
            · obtain rfl : j = k := by omega
              go_wp2_with fail
              go_ret
              exact ⟨rfl, hbw⟩

set_option maxRecDepth 100000 in
set_option maxHeartbeats 8000000 in
theorem specEatenBy (f : Fd) (hf : f.Wf) (n : Nat) (hn : n ≤ 2 ^ 40) (F : Nat → Nat → Int) (hF : WfS ksFlock n F) (d c0 : Nat) (m : Nat) (hm : m ≤ 2 ^ 40) (G : Nat → Nat → Int) (hG : WfS ksVisit m G) (b c : Nat) (w : World) (IF : InS w d 0 n ksFlock F) (I : InS w b 0 m ksVisit G) :
    Calls Tryd.prog 33 #[.agg (fcells f), .slice (some ⟨d, 0, none⟩) n c0, .slice (some ⟨b, 0, none⟩) m c] w (EbP f n F m G w) := by
  have HI := Lib.hid I
  have HIF := Lib.hid IF
  have HG := Lib.hid (fun i (hi : i < m) => (⟨bounds_i8 (hG i hi 0 (by decide)), bounds_i16 (hG i hi 2 (by decide))⟩ : (-128 ≤ G i 0 ∧ G i 0 ≤ 127) ∧ -32768 ≤ G i 2 ∧ G i 2 ≤ 32767))
  have hwn : IntKind.i64.wrap ((n : Int) - 1) = (n : Int) - 1 := wrap_i64V (by omega) (by omega)
  clear I IF
  cases hok : okFlocks f n F with
  | false =>
    have HOK := Lib.hid hok
    have hC : ebCode f n F m G = 1 := by unfold ebCode; rw [hok]; rfl
    have HC := Lib.hid hC
    clear hok hC
    go_enter Tryd.func33, Tryd.ntmps33
    go_upto_region 1 with (fail)
    obtain ⟨W, hW, M⟩ := open1 w (fcells f) 30
    rw [hW]; clear hW
    go_wp2_with (go_at_call 59; refine (l02Ok_any f hf n hn F hF w.heap.size d c0 _ (M.at 0 rfl) (HIF.out.later M.below)).mono ?_; rintro e w1 ⟨rfl, rfl⟩; rw [HOK.out])
    go_ret2
    exact ebP_bad HC.out (by decide) _ _ (M.below.alloc M.below.size _)
  | true =>
    have HOK := Lib.hid hok
    cases hA : ebA n m G with
    | false =>
      have hC : ebCode f n F m G = 2 := by unfold ebCode; rw [hok, hA]; rfl
      have HC := Lib.hid hC
      obtain ⟨z, hz, hz1, hz2⟩ := ebA_to hA
      have HZ1 := Lib.hid hz1
      have HZ2 := Lib.hid hz2
      clear hok hC hA hz1 hz2
      go_enter Tryd.func33, Tryd.ntmps33
      go_upto_region 1 with (fail)
      obtain ⟨W, hW, M⟩ := open1 w (fcells f) 30
      rw [hW]; clear hW
      go_wp2_with (go_at_call 59; refine (l02Ok_any f hf n hn F hF w.heap.size d c0 _ (M.at 0 rfl) (HIF.out.later M.below)).mono ?_; rintro e w1 ⟨rfl, rfl⟩; rw [HOK.out])
      go_loopw [8] (fun i wr => ∃ k : Nat, k ≤ z ∧ i = .int .i64 k ∧ Below w.heap.size w wr) (fun i _ => m - (intOf i).toNat)
      case atStart => exact ⟨0, by omega, rfl, M.below⟩
      case round =>
        obtain ⟨k, hk, rfl, hbw⟩ := hrel
        have hlt : k < m := by omega
        obtain ⟨hc, _, _⟩ := vis_get HI.out hbw hlt
        have hcv : IntKind.i64.wrap (G k 0) = G k 0 := by have := HG.out k hlt; exact wrap_i64V (by omega) (by omega)
        by_cases hkz : k < z
        · have hin := Lib.hid (HZ2.out k hkz)
          go_wp2_with (go_at_call 57; refine (l00In_any _ _ _ _).mono ?_; rintro e w5 ⟨rfl, rfl⟩; rw [hin.out])
          go_roundw
          case rel => exact ⟨k + 1, by omega, by go_num, hbw⟩
          case measure => simp [intOf]; omega
        · obtain rfl : k = z := by omega
          go_wp2_with (go_at_call 57; refine (l00In_any _ _ _ _).mono ?_; rintro e w5 ⟨rfl, rfl⟩; rw [HZ1.out])
          go_ret2
          exact ebP_bad HC.out (by decide) _ _ (hbw.alloc hbw.size _)
    | true =>
      have HA := Lib.hid hA
      have HZ0 := Lib.hid (allTo_iff.1 hA)
      cases hB : ebB m G with
      | false =>
        have hC : ebCode f n F m G = 4 := by unfold ebCode; rw [hok, hA, hB]; rfl
        have HC := Lib.hid hC
        obtain ⟨z, hz, hz1, hz2⟩ := ebB_to hB
        have HZ2 := Lib.hid hz2
        clear hok hC hA hB hz2
        go_enter Tryd.func33, Tryd.ntmps33
        go_upto_region 1 with (fail)
        obtain ⟨W, hW, M⟩ := open1 w (fcells f) 30
        rw [hW]; clear hW
        go_wp2_with (go_at_call 59; refine (l02Ok_any f hf n hn F hF w.heap.size d c0 _ (M.at 0 rfl) (HIF.out.later M.below)).mono ?_; rintro e w1 ⟨rfl, rfl⟩; rw [HOK.out])
        go_loopw [8] (fun i wr => ∃ k : Nat, k ≤ m ∧ i = .int .i64 k ∧ Below w.heap.size w wr) (fun i _ => m - (intOf i).toNat)
        case atStart => exact ⟨0, by omega, rfl, M.below⟩
        case round =>
          obtain ⟨k, hk, rfl, hbw⟩ := hrel
          by_cases hlt : k < m
          · obtain ⟨hc, _, _⟩ := vis_get HI.out hbw hlt
            have hcv : IntKind.i64.wrap (G k 0) = G k 0 := by have := HG.out k hlt; exact wrap_i64V (by omega) (by omega)
            have hin := Lib.hid (HZ0.out k hlt)
            go_wp2_with (go_at_call 57; refine (l00In_any _ _ _ _).mono ?_; rintro e w5 ⟨rfl, rfl⟩; rw [hin.out])
            go_roundw
            case rel => exact ⟨k + 1, by omega, by go_num, hbw⟩
            case measure => simp [intOf]; omega
          · obtain rfl : k = m := by omega
            go_wp2_with fail
            clear hlt
            obtain ⟨wo, hwo⟩ : ∃ wo, wo = wr := ⟨_, rfl⟩
            have hbo : Below w.heap.size w wo := hwo ▸ hbw
            rw [← hwo]
            clear hwo hbw hk
            go_loopw [9] (fun i wr => ∃ j : Nat, j ≤ z ∧ i = .int .i64 j ∧ Below w.heap.size w wr) (fun i _ => k - (intOf i).toNat)
            case atStart => exact ⟨0, by omega, rfl, hbo⟩
            case round =>
              obtain ⟨j, hj, rfl, hbw⟩ := hrel
              have hlt : j < k := by omega
              obtain ⟨_, _, hc⟩ := vis_get HI.out hbw hlt
              by_cases hkz : j < z
              · have hin : ¬ (G j 2 < 0) := by have := HZ2.out j hkz; omega
                go_wp2_with fail
                go_roundw
                case rel => exact ⟨j + 1, by omega, by go_num, hbw⟩
                case measure => simp [intOf]; omega
              · obtain rfl : j = z := by omega
                go_wp2_with fail
                go_ret2
                exact ebP_bad HC.out (by decide) _ _ (hbw.alloc hbw.size _)
      | true =>
        have hC : ebCode f n F m G = 0 := by unfold ebCode; rw [hok, hA, hB]; rfl
        have HC := Lib.hid hC
        have HZ2 := Lib.hid (allTo_iff.1 hB)
        clear hok hC hA hB
        go_enter Tryd.func33, Tryd.ntmps33
        go_upto_region 1 with (fail)
        obtain ⟨W, hW, M⟩ := open1 w (fcells f) 30
        rw [hW]; clear hW
        go_wp2_with (go_at_call 59; refine (l02Ok_any f hf n hn F hF w.heap.size d c0 _ (M.at 0 rfl) (HIF.out.later M.below)).mono ?_; rintro e w1 ⟨rfl, rfl⟩; rw [HOK.out])
        go_loopw [8] (fun i wr => ∃ k : Nat, k ≤ m ∧ i = .int .i64 k ∧ Below w.heap.size w wr) (fun i _ => m - (intOf i).toNat)
        case atStart => exact ⟨0, by omega, rfl, M.below⟩
        case round =>
          obtain ⟨k, hk, rfl, hbw⟩ := hrel
          by_cases hlt : k < m
          · obtain ⟨hc, _, _⟩ := vis_get HI.out hbw hlt
            have hcv : IntKind.i64.wrap (G k 0) = G k 0 := by have := HG.out k hlt; exact wrap_i64V (by omega) (by omega)
            have hin := Lib.hid (HZ0.out k hlt)
            go_wp2_with (go_at_call 57; refine (l00In_any _ _ _ _).mono ?_; rintro e w5 ⟨rfl, rfl⟩; rw [hin.out])
            go_roundw
            case rel => exact ⟨k + 1, by omega, by go_num, hbw⟩
            case measure => simp [intOf]; omega
          · obtain rfl : k = m := by omega
            go_wp2_with fail
            clear hlt
            obtain ⟨wo, hwo⟩ : ∃ wo, wo = wr := ⟨_, rfl⟩
            have hbo : Below w.heap.size w wo := hwo ▸ hbw
            rw [← hwo]
            clear hwo hbw hk
            go_loopw [9] (fun i wr => ∃ j : Nat, j ≤ k ∧ i = .int .i64 j ∧ Below w.heap.size w wr) (fun i _ => k - (intOf i).toNat)
            case atStart => exact ⟨0, by omega, rfl, hbo⟩
            case round =>
              obtain ⟨j, hj, rfl, hbw⟩ := hrel
              by_cases hlt : j < k
              · obtain ⟨_, _, hc⟩ := vis_get HI.out hbw hlt
                have hin : ¬ (G j 2 < 0) := by have := of_decide_eq_true (HZ2.out j hlt); omega
                go_wp2_with fail
                go_roundw
                case rel => exact ⟨j + 1, by omega, by go_num, hbw⟩
                case measure => simp [intOf]; omega
              · obtain rfl : j = k := by omega
                go_wp2_with (go_at_call 60; refine (l02Sums_any n hn j hm G hG HA.out b c _ (HI.out.later hbw)).mono ?_; rintro e w9 ⟨rfl, MS⟩)
                go_ret2
                exact ebP_ok HC.out hbw.size (MS.at 0 rfl) (hbw.trans (MS.below.mono hbw.size))

set_option maxRecDepth 100000 in
set_option maxHeartbeats 8000000 in
theorem implEatenBy (f : Fd) (hf : f.Wf) (n : Nat) (hn : n ≤ 2 ^ 40) (F : Nat → Nat → Int) (hF : WfS ksFlock n F) (d c0 : Nat) (m : Nat) (hm : m ≤ 2 ^ 40) (G : Nat → Nat → Int) (hG : WfS ksVisit m G) (b c : Nat) (A : Nat → Addr) (w : World) (T0 : TabAt w) (S0 : Sents w A) (IF : InS w d 0 n ksFlock F) (I : InS w b 0 m ksVisit G) :
    Calls Tryd.prog 35 #[.agg (fcells f), .slice (some ⟨d, 0, none⟩) n c0, .slice (some ⟨b, 0, none⟩) m c] w (EbP f n F m G w) := by
  have HI := Lib.hid I
  have HIF := Lib.hid IF
  have S := Lib.hid S0
  have T := Lib.hid T0
  have hif := isIfaceErr
  clear I IF S0 T0
  cases hok : okFlocks f n F with
  | false =>
    have HOK := Lib.hid hok
    have hC : ebCode f n F m G = 1 := by unfold ebCode; rw [hok]; rfl
    have HC := Lib.hid hC
    clear hok hC
    go_enter Tryd.func35, Tryd.ntmps35
    go_upto_region 1 with (fail)
    obtain ⟨W, hW, M⟩ := open1 w (fcells f) 30
    rw [hW]; clear hW
    go_wp2_with (first
      | (refine wpList_load_part rfl 30 _ rfl w.heap.size 0 rfl (fcells f) _ (M.at 0 rfl).whole Tryd.underlying30 rfl (by rw [fcells_size]; exact sizeFd) ?_)
      | (go_at_call 44; refine (checkBirds0 f hf n hn F hF A d c0 _ (T.out.later M.below) (S.out.later M.below) (HIF.out.later M.below)).mono ?_; rintro e W2 ⟨rfl, hb⟩; rw [HOK.out]; have M2 := M.call hb; clear hb M; rw [errIf_false])
      | (go_at_call 45; refine (codeOf_err A 1 (by omega) (by omega) _ (S.out.later M2.below)).mono ?_; rintro e w5 ⟨rfl, rfl⟩))
    go_ret2
    exact ebP_bad HC.out (by decide) _ _ M2.below
  | true =>
    have HOK := Lib.hid hok
    cases hA : ebA n m G with
    | false =>
      have hC : ebCode f n F m G = 2 := by unfold ebCode; rw [hok, hA]; rfl
      have hE : cvErr A n m G = errVal (A 2) := by unfold cvErr; rw [hA, if_neg (by decide)]
      have HC := Lib.hid hC
      have HE := Lib.hid hE
      clear hok hC hA hE
      go_enter Tryd.func35, Tryd.ntmps35
      go_upto_region 1 with (fail)
      obtain ⟨W, hW, M⟩ := open1 w (fcells f) 30
      rw [hW]; clear hW
      go_wp2_with (first
        | (refine wpList_load_part rfl 30 _ rfl w.heap.size 0 rfl (fcells f) _ (M.at 0 rfl).whole Tryd.underlying30 rfl (by rw [fcells_size]; exact sizeFd) ?_)
        | (go_at_call 44; refine (checkBirds0 f hf n hn F hF A d c0 _ (T.out.later M.below) (S.out.later M.below) (HIF.out.later M.below)).mono ?_; rintro e W2 ⟨rfl, hb⟩; rw [HOK.out]; have M2 := M.call hb; clear hb M; rw [errIf_true])
        | (go_at_call 62; refine (checkVisits_any n hn _ _ m hm G hG b c A _ (S.out.later M2.below) (HI.out.later M2.below)).mono ?_; rintro e W3 ⟨rfl, hb⟩; rw [HE.out]; have M3 := M2.call hb; clear hb M2)
        | (go_at_call 45; refine (codeOf_err A 2 (by omega) (by omega) _ (S.out.later M3.below)).mono ?_; rintro e w5 ⟨rfl, rfl⟩))
      go_ret2
      exact ebP_bad HC.out (by decide) _ _ M3.below
    | true =>
      have HA := Lib.hid hA
      cases hB : ebB m G with
      | false =>
        have hC : ebCode f n F m G = 4 := by unfold ebCode; rw [hok, hA, hB]; rfl
        have hE : cvErr A n m G = errVal (A 4) := by unfold cvErr; rw [hA, hB, if_pos rfl, if_neg (by decide)]
        have HC := Lib.hid hC
        have HE := Lib.hid hE
        clear hok hC hA hB hE
        go_enter Tryd.func35, Tryd.ntmps35
        go_upto_region 1 with (fail)
        obtain ⟨W, hW, M⟩ := open1 w (fcells f) 30
        rw [hW]; clear hW
        go_wp2_with (first
          | (refine wpList_load_part rfl 30 _ rfl w.heap.size 0 rfl (fcells f) _ (M.at 0 rfl).whole Tryd.underlying30 rfl (by rw [fcells_size]; exact sizeFd) ?_)
          | (go_at_call 44; refine (checkBirds0 f hf n hn F hF A d c0 _ (T.out.later M.below) (S.out.later M.below) (HIF.out.later M.below)).mono ?_; rintro e W2 ⟨rfl, hb⟩; rw [HOK.out]; have M2 := M.call hb; clear hb M; rw [errIf_true])
          | (go_at_call 62; refine (checkVisits_any n hn _ _ m hm G hG b c A _ (S.out.later M2.below) (HI.out.later M2.below)).mono ?_; rintro e W3 ⟨rfl, hb⟩; rw [HE.out]; have M3 := M2.call hb; clear hb M2)
          | (go_at_call 45; refine (codeOf_err A 4 (by omega) (by omega) _ (S.out.later M3.below)).mono ?_; rintro e w5 ⟨rfl, rfl⟩))
        go_ret2
        exact ebP_bad HC.out (by decide) _ _ M3.below
      | true =>
        have hC : ebCode f n F m G = 0 := by unfold ebCode; rw [hok, hA, hB]; rfl
        have hE : cvErr A n m G = .nilIface := by unfold cvErr; rw [hA, hB, if_pos rfl, if_pos rfl]
        have HC := Lib.hid hC
        have HE := Lib.hid hE
        clear hok hC hA hB hE
        go_enter Tryd.func35, Tryd.ntmps35
        go_upto_region 1 with (fail)
        obtain ⟨W, hW, M⟩ := open1 w (fcells f) 30
        rw [hW]; clear hW
        go_wp2_with (first
          | (refine wpList_load_part rfl 30 _ rfl w.heap.size 0 rfl (fcells f) _ (M.at 0 rfl).whole Tryd.underlying30 rfl (by rw [fcells_size]; exact sizeFd) ?_)
          | (go_at_call 44; refine (checkBirds0 f hf n hn F hF A d c0 _ (T.out.later M.below) (S.out.later M.below) (HIF.out.later M.below)).mono ?_; rintro e W2 ⟨rfl, hb⟩; rw [HOK.out]; have M2 := M.call hb; clear hb M; rw [errIf_true])
          | (go_at_call 62; refine (checkVisits_any n hn _ _ m hm G hG b c A _ (S.out.later M2.below) (HI.out.later M2.below)).mono ?_; rintro e W3 ⟨rfl, hb⟩; rw [HE.out]; have M3 := M2.call hb; clear hb M2)
          | (go_at_call 63; refine (eatenBy_any n hn _ _ m hm G hG HA.out b c _ (HI.out.later M3.below)).mono ?_; rintro e w9 ⟨rfl, MS⟩))
        go_ret2
        exact ebP_ok HC.out M3.below.size (MS.at 0 rfl) (M3.below.trans (MS.below.mono M3.below.size))
end Go.Proofs.YtaioflkonpommaaDoor