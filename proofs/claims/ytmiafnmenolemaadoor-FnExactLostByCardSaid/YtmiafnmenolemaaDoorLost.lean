/-
  What is lost of each plot: the model's, the program's.
-/
import Derived.Test.YtmiafnmenolemaaDoorPlanS
import Derived.Test.YtmiafnmenolemaaDoorNumL
import Derived.Test.YtmiafnmenolemaaDoorRelA
namespace Go.Proofs.YtmiafnmenolemaaDoor
open Go Go.RowKit

theorem nums_succ7 (h : Nat → Int) (n : Nat) : nums h (n + 1) = nums h n ++ [h n] := by simp [nums, List.range_succ]
theorem owns_below {w w' : World} {base : Nat} {e : TypeId} {size : Nat} {v : Value} {n : Nat} {xs : List Value} (h : w.ownsRow base e size v n xs) (hb : Below w.heap.size w w') : w'.ownsRow base e size v n xs :=
  h.kept (row := none) ⟨hb.os, hb.tape, hb.output, hb.size, fun k hk _ => hb.block k hk⟩ (Classical.em _)
theorem load_q16 (b off : Nat) (n : Int) (w : World) (c : w.cell? ⟨b, off, none⟩ = some (.int .i16 n)) : (Instr.loadAt 46 (.pointer (some ⟨b, off, none⟩))).run Tryd.prog w = .ok (.int .i16 n) w := by
  simp [Instr.loadAt, go_sem, Tryd.underlying46, c]
/-- What is lost of a plot. -/
def lostG (F : Nat → Nat → Int) (h : Nat → Int) (i : Nat) : Int := F i 0 - worthA (F i) (h i)
def lostN (n : Nat) (F : Nat → Nat → Int) (H : Int) (m : Nat) (h : Nat → Int) : Nat := if planOk n F H m h then m else 0
theorem lostN_le (n : Nat) (F : Nat → Nat → Int) (H : Int) (m : Nat) (h : Nat → Int) : lostN n F H m h ≤ m := by unfold lostN; split <;> omega
def LosP (n : Nat) (F : Nat → Nat → Int) (H : Int) (m : Nat) (h : Nat → Int) (w : World) (e : Ending) (w' : World) : Prop :=
  ∃ p c, e = .returned (.tuple #[.slice p (lostN n F H m h) c, .int .i64 (planCode n F H m h)]) ∧ NV w.heap.size w'.heap.size w' p (lostN n F H m h) (lostG F h) ∧ NW w.heap.size w'.heap.size w' p (lostN n F H m h) ∧ Below w.heap.size w w'
theorem losP_bad {n : Nat} {F : Nat → Nat → Int} {H : Int} {m : Nat} {h : Nat → Int} {w w' : World} (hp : planOk n F H m h = false) (p : Option Addr) (c : Nat) (hb : Below w.heap.size w w') : LosP n F H m h w (.returned (.tuple #[.slice p 0 c, .int .i64 1])) w' := by
  have hN : lostN n F H m h = 0 := by unfold lostN; rw [hp]; rfl
  have hC : planCode n F H m h = 1 := by unfold planCode; rw [hp]; rfl
  exact ⟨p, c, by rw [hN, hC], .inl hN, .inl hN, hb⟩
theorem losP_ok {n : Nat} {F : Nat → Nat → Int} {H : Int} {m : Nat} {h : Nat → Int} {w w' : World} {v : Value} (hp : planOk n F H m h = true) (lo : Nat) (hlo : w.heap.size ≤ lo) (ho : w'.ownsRow lo 2 1 v m ((nums (lostG F h) m).map (Value.int .i64))) (hb : Below w.heap.size w w') : LosP n F H m h w (.returned (.tuple #[v, .int .i64 0])) w' := by
  have hN : lostN n F H m h = m := by unfold lostN; rw [hp]; rfl
  have hC : planCode n F H m h = 0 := by unfold planCode; rw [hp]; rfl
  obtain ⟨p, c, rfl, V, X⟩ := Nown (nums_length _ _) ho
  exact ⟨p, c, by rw [hN, hC], by rw [hN]; exact (V.mono hlo (Nat.le_refl _)).congr (fun i hi => nums_getD _ _ _ hi), by rw [hN]; exact X.mono hlo (Nat.le_refl _), hb⟩
set_option maxRecDepth 100000 in
set_option maxHeartbeats 8000000 in
theorem specLostBy (n : Nat) (hn : n ≤ 2 ^ 40) (F : Nat → Nat → Int) (hF : ∀ i, i < n → WfPl (F i)) (b c : Nat) (H : Int) (m : Nat) (hm : m ≤ 2 ^ 40) (h : Nat → Int) (b2 c2 : Nat) (w : World) (I : InS w b 0 n ksPlot F) (I2 : InI w b2 0 m h) :
    Calls Tryd.prog 25 #[.slice (some ⟨b, 0, none⟩) n c, .int .i64 H, .slice (some ⟨b2, 0, none⟩) m c2] w (LosP n F H m h w) := by
  have HI := Lib.hid I
  have HI2 := Lib.hid I2
  clear I I2
  obtain ⟨i0, hinf, hz0, hz1, hz2⟩ := info_parts Ninfo
  obtain ⟨p, hp⟩ : ∃ p, planOk n F H m h = p := ⟨_, rfl⟩
  have HP := Lib.hid hp
  cases p with
  | false =>
    clear hp
    go_enter Tryd.func25, Tryd.ntmps25
    go_wp2_with (go_at_call 47; refine (l07Plan_any n hn F hF b c H m hm h b2 c2 _ HI.out HI2.out).mono ?_; rintro e w2 ⟨rfl, hb2⟩; rw [HP.out])
    go_ret2
    exact losP_bad HP.out _ _ (hb2.alloc hb2.size _)
  | true =>
    obtain ⟨ho, hm6, rfl, hh⟩ := plan_days hp
    have HO := Lib.hid ho
    have HH := Lib.hid hh
    clear hp ho hh
    go_enter Tryd.func25, Tryd.ntmps25
    go_upto_region 3 with (go_at_call 47; refine (l07Plan_any m hn F hF b c H m hm h b2 c2 _ HI.out HI2.out).mono ?_; rintro e W2 ⟨rfl, hb2⟩; rw [HP.out]; have HB2 := Lib.hid hb2; clear hb2)
    have s2 := HB2.out.size
    have R0 : (W2.alloc (.cells #[] 2)).ownsRow W2.heap.size 2 1 (.slice (some ⟨W2.heap.size, 0, none⟩) 0 0) 0 [] := World.ownsRow_made W2 #[] 0 (Nat.le_refl _) (Nat.zero_le _) (by simp)
    have HR0 := Lib.hid R0
    have C0 := Lib.hid ((Below.refl W2.heap.size W2).alloc (Nat.le_refl _) (.cells #[] 2))
    clear R0
    go_wp2_with fail
    go_loopw [8, 9] (fun v i wr => ∃ q : Nat, q ≤ m ∧ i = .int .i64 q ∧ Hid (wr.ownsRow W2.heap.size 2 1 v q ((nums (lostG F h) q).map (Value.int .i64))) ∧ Hid (Below W2.heap.size W2 wr)) (fun _ i _ => m - (intOf i).toNat)
    case atStart => exact ⟨0, by omega, rfl, HR0, C0⟩
    case round =>
      clear HR0 C0
      obtain ⟨k, hk, rfl, hO, hB2⟩ := hrel
      have hbw := Lib.hid (HB2.out.trans (hB2.out.mono HB2.out.size))
      by_cases hlt : k < m
      · have hx := HH.out k hlt
        have hpk := Lib.hid (HO.out k hlt)
        obtain ⟨x, hxv⟩ : ∃ x, h k = x := ⟨_, rfl⟩
        have HX := Lib.hid hxv
        have hwi := worthA_in hpk.out x
        obtain ⟨h01, h02⟩ := (plotOk_iff.1 hpk.out).1
        obtain ⟨v, hv⟩ : ∃ v, worthA (F k) x = v := ⟨_, rfl⟩
        have HV := Lib.hid hv
        rw [hv] at hwi
        obtain ⟨z, hz⟩ : ∃ z, F k 0 - v = z := ⟨_, rfl⟩
        have hzr : 0 ≤ z ∧ z ≤ 1000 := by omega
        have HS := Lib.hid (show nums (lostG F h) (k + 1) = nums (lostG F h) k ++ [z] by rw [nums_succ7]; unfold lostG; rw [HX.out, hv, hz])
        have HZ := Lib.hid hz
        have d0 := (HI2.out.later hbw.out) k hlt
        rw [Nat.zero_add] at d0
        rw [hxv] at d0 hx
        obtain ⟨r0, r1, r2, r3⟩ := row_at (HI.out.later hbw.out) hlt
        clear hxv hv hz
        obtain ⟨L, hL⟩ : ∃ L, nums (lostG F h) k = L := ⟨_, rfl⟩
        have hLl : L.length = k := by rw [← hL, nums_length]
        rw [hL] at hO HS
        clear hL
        have hrest : Hid (∀ (wq : World) (v2 : Value), Below W2.heap.size W2 wq → wq.ownsRow W2.heap.size 2 1 v2 (k + 1) ((L ++ [z]).map (Value.int .i64)) → True) := Lib.hid (fun _ _ _ _ => trivial)
        by_cases hge : 0 ≤ x
        · go_upto_region 9 with (fail)
          clear r0 r1 r2 r3 d0
          have g1 : Hid (∀ w', Below wr.heap.size wr w' → w'.rangeAt b (0 + k * 4) (srow ksPlot F k).toList) := Lib.hid (fun w' hw' => InS.elem (ks := ksPlot) HI.out (by decide) (hbw.out.trans (hw'.mono hbw.out.size)) hlt)
          have g2 : Hid (∀ w', Below wr.heap.size wr w' → w'.cell? ⟨b2, 0 + k * 1, none⟩ = some (.int .i64 x)) := Lib.hid (fun w' hw' => by have h9 := (HI2.out.later (hbw.out.trans (hw'.mono hbw.out.size))) k hlt; rw [HX.out] at h9; rw [Nat.mul_one]; exact h9)
          have hwr : IntKind.i64.wrap (F k 0 - v) = z := by rw [HZ.out]; exact IntWalk.i64_in _ (by omega)
          refine wp_region_rel (DL [dV (.int .i64 (F k 0)), dV (.slice (some ⟨b, 0, none⟩) m c), dV (.int .i64 (k : Int)), dV (.pointer (some ⟨b, 0 + k * 4, none⟩)), dV (.agg (srow ksPlot F k)), dV (.slice (some ⟨b2, 0, none⟩) m c2), dV (.int .i64 (k : Int)), dV (.pointer (some ⟨b2, 0 + k * 1, none⟩)), dV (.int .i64 x), dV (.int .i64 v), dV (.int .i64 z), dV (.int .i64 z)]) (fun w' => Below wr.heap.size wr w') (by kernel_rfl) (by kernel_rfl) (fun _ _ h h' => h.trans (h'.mono h.size))
            (stays_DL (fun d hd => by
              simp only [List.mem_cons, List.mem_nil_iff, or_false] at hd
              rcases hd with rfl | rfl | rfl | rfl | rfl | rfl | rfl | rfl | rfl | rfl | rfl | rfl <;> exact stay_V)) (Below.refl _ _).drew ?_
          refine rel_val _ rfl rfl (fun _ _ => rfl) (fun _ => ?_)
          simp only [Act.put, List.setIfInBounds_toArray, List.set_cons_zero, List.set_cons_succ]
          refine rel_val _ rfl rfl (fun _ _ => rfl) (fun _ => ?_)
          simp only [Act.put, List.setIfInBounds_toArray, List.set_cons_zero, List.set_cons_succ]
          refine rel_val _ rfl rfl (fun _ _ => rfl) (fun _ => ?_)
          simp only [Act.put, List.setIfInBounds_toArray, List.set_cons_zero, List.set_cons_succ]
          refine rel_index 25 48 _ _ rfl b 0 m c 4 k rfl rfl hlt Tryd.underlying25 (by kernel_rfl) rfl rfl (fun _ => ?_)
          simp only [Act.put, List.setIfInBounds_toArray, List.set_cons_zero, List.set_cons_succ]
          refine rel_load 48 _ rfl b (0 + k * 4) rfl (srow ksPlot F k) _ rfl rfl g1.out Tryd.underlying48 rfl (by rw [srow_size]; kernel_rfl) (fun _ => ?_)
          simp only [Act.put, List.setIfInBounds_toArray, List.set_cons_zero, List.set_cons_succ]
          refine rel_val _ rfl rfl (fun _ _ => rfl) (fun _ => ?_)
          simp only [Act.put, List.setIfInBounds_toArray, List.set_cons_zero, List.set_cons_succ]
          refine rel_val _ rfl rfl (fun _ _ => rfl) (fun _ => ?_)
          simp only [Act.put, List.setIfInBounds_toArray, List.set_cons_zero, List.set_cons_succ]
          refine rel_index 34 2 _ _ rfl b2 0 m c2 1 k rfl rfl hlt Tryd.underlying34 (by kernel_rfl) rfl rfl (fun _ => ?_)
          simp only [Act.put, List.setIfInBounds_toArray, List.set_cons_zero, List.set_cons_succ]
          refine rel_cell 2 _ rfl (b2) (0 + k * 1) rfl (.int .i64 x) rfl rfl (fun w' c => load_p64 _ _ _ w' c) (fun w' hw' => g2.out w' hw') (fun _ => ?_)
          simp only [Act.put, List.setIfInBounds_toArray, List.set_cons_zero, List.set_cons_succ]
          refine rel_call (.int .i64 v) 39 #[.agg (srow ksPlot F k), .int .i64 x] rfl rfl rfl rfl (enters_of Tryd.func39 (by kernel_rfl) rfl) (fun w' _ => by have h9 := l07Worth_any (F k) hpk.out x (by omega) w'; rw [HV.out] at h9; exact h9) (fun _ => ?_)
          simp only [Act.put, List.setIfInBounds_toArray, List.set_cons_zero, List.set_cons_succ]
          refine rel_val (.int .i64 z) rfl rfl (fun w' _ => by simp [execOp, Act.eval, go_sem, hwr]) (fun _ => ?_)
          simp only [Act.put, List.setIfInBounds_toArray, List.set_cons_zero, List.set_cons_succ]
          refine rel_val _ rfl rfl (fun _ _ => rfl) (fun _ => ?_)
          simp only [Act.put, List.setIfInBounds_toArray, List.set_cons_zero, List.set_cons_succ]
          refine rel_nil (fun W5 inv => ?_)
          have hb5 := inv.cls
          clear inv
          have hO5 := Lib.hid (owns_below hO.out hb5)
          have hB5 := Lib.hid (hB2.out.trans (hb5.mono hB2.out.size))
          clear hO
          have HO1 := Lib.hid (hO5.out.alloc (.cells #[.int .i64 z] 2))
          have hbs := hB5.out.size
          go_wp2_with (at_builtin; refine wpList_append_own _ rfl _ _ 34 rfl W2.heap.size 2 i0 (.int .i64 0) 1 8 Tryd.underlying34 hinf hz0 hz1 hz2 rfl (by decide) _ _ _ rfl HO1.out ⟨W5.heap.size, 0, none⟩ 1 1 [.int .i64 z] rfl rfl ?c1 ?c2 ?c3 ?c4 ?c5 ?_)
          try (case c1 =>
            intro y u hqu
            have hq0 : y = 0 := by have := (List.getElem?_eq_some_iff.1 hqu).1; simp at this; exact this
            subst hq0
            simp at hqu
            subst hqu
            rw [Addr.add_lit]
            exact (Blk.new W5 #[.int .i64 z] 2).cell rfl)
          try (case c2 => first | rfl | (intro u hu; simp at hu; subst hu; rfl))
          try (case c3 => first | (unfold maxLen; omega) | omega | (simp [maxLen]; omega))
          try (case c4 => first | omega | (simp; omega))
          try (case c5 => first | (simp; omega) | omega)
          intro v2 w2 ho2 hg2 _
          have C2 := Lib.hid (below_own (hB5.out.alloc hB5.out.size (.cells #[.int .i64 z] 2)) (by simp; omega) HO1.out hg2)
          have O2 : Hid (w2.ownsRow W2.heap.size 2 1 v2 (k + 1) ((nums (lostG F h) (k + 1)).map (Value.int .i64))) := Lib.hid (by rw [HS.out, List.map_append]; exact ho2)
          clear ho2 hg2
          go_wp2_with fail
          go_roundw
          case rel => exact ⟨k + 1, by omega, by go_num, O2, C2⟩
          case measure => simp [intOf]; omega
        · have hv0 : v = 0 := by rw [← HV.out]; exact worthA_neg hpk.out (by omega)
          have hz0' : F k 0 = z := by rw [← HZ.out, hv0]; omega
          rw [hz0'] at r0
          have HO1 := Lib.hid (hO.out.alloc (.cells #[.int .i64 z] 2))
          have hbs := hB2.out.size
          go_wp2_with (at_builtin; refine wpList_append_own _ rfl _ _ 34 rfl W2.heap.size 2 i0 (.int .i64 0) 1 8 Tryd.underlying34 hinf hz0 hz1 hz2 rfl (by decide) _ _ _ rfl HO1.out ⟨wr.heap.size, 0, none⟩ 1 1 [.int .i64 z] rfl rfl ?c1 ?c2 ?c3 ?c4 ?c5 ?_)
          try (case c1 =>
            intro y u hqu
            have hq0 : y = 0 := by have := (List.getElem?_eq_some_iff.1 hqu).1; simp at this; exact this
            subst hq0
            simp at hqu
            subst hqu
            rw [Addr.add_lit]
            exact (Blk.new wr #[.int .i64 z] 2).cell rfl)
          try (case c2 => first | rfl | (intro u hu; simp at hu; subst hu; rfl))
          try (case c3 => first | (unfold maxLen; omega) | omega | (simp [maxLen]; omega))
          try (case c4 => first | omega | (simp; omega))
          try (case c5 => first | (simp; omega) | omega)
          intro v2 w2 ho2 hg2 _
          have C2 := Lib.hid (below_own (hB2.out.alloc hB2.out.size (.cells #[.int .i64 z] 2)) (by simp; omega) HO1.out hg2)
          have O2 : Hid (w2.ownsRow W2.heap.size 2 1 v2 (k + 1) ((nums (lostG F h) (k + 1)).map (Value.int .i64))) := Lib.hid (by rw [HS.out, List.map_append]; exact ho2)
          clear ho2 hg2
          go_wp2_with fail
          go_roundw
          case rel => exact ⟨k + 1, by omega, by go_num, O2, C2⟩
          case measure => simp [intOf]; omega
      · obtain rfl : k = m := by omega
        go_wp2_with fail
        go_ret2
        exact losP_ok HP.out _ s2 hO.out hbw.out
set_option maxRecDepth 100000 in
set_option maxHeartbeats 8000000 in
theorem implLostBy (n : Nat) (hn : n ≤ 2 ^ 40) (F : Nat → Nat → Int) (hF : ∀ i, i < n → WfPl (F i)) (b c : Nat) (H : Int) (m : Nat) (hm : m ≤ 2 ^ 40) (h : Nat → Int) (b2 c2 : Nat) (A : Nat → Addr) (w : World) (I : InS w b 0 n ksPlot F) (I2 : InI w b2 0 m h) (S0 : Sents w A) :
    Calls Tryd.prog 26 #[.slice (some ⟨b, 0, none⟩) n c, .int .i64 H, .slice (some ⟨b2, 0, none⟩) m c2] w (LosP n F H m h w) := by
  have S : Hid (Sents w A) := Lib.hid S0
  clear S0
  have hif := isIfaceErr
  have HI := Lib.hid I
  have HI2 := Lib.hid I2
  clear I I2
  obtain ⟨i0, hinf, hz0, hz1, hz2⟩ := info_parts Ninfo
  obtain ⟨p, hp⟩ : ∃ p, planOk n F H m h = p := ⟨_, rfl⟩
  have HP := Lib.hid hp
  cases p with
  | false =>
    clear hp
    go_enter Tryd.func26, Tryd.ntmps26
    go_wp2_with (first
      | (go_at_call 48; refine (checkPlan_any n hn F hF b c H m hm h b2 c2 A _ HI.out HI2.out S.out.v1).mono ?_; rintro e w2 ⟨rfl, hb2⟩; rw [HP.out, show plErr A false = errVal (A 1) from rfl])
      | (go_at_call 41; refine (codeOf_err A 1 (by omega) (by omega) _ (S.out.later hb2)).mono ?_; rintro e w' ⟨rfl, rfl⟩))
    go_ret2
    exact losP_bad HP.out _ _ hb2
  | true =>
    obtain ⟨ho, hm6, rfl, hh⟩ := plan_days hp
    have HO := Lib.hid ho
    have HH := Lib.hid hh
    clear hp ho hh
    go_enter Tryd.func26, Tryd.ntmps26
    go_wp2_with (go_at_call 48; refine (checkPlan_any m hn F hF b c H m hm h b2 c2 A _ HI.out HI2.out S.out.v1).mono ?_; rintro e W2 ⟨rfl, hb2⟩; rw [HP.out, show plErr A true = .nilIface from rfl]; have HB2 := Lib.hid hb2; clear hb2)
    have s2 := HB2.out.size
    have HR0 := Lib.hid (World.ownsRow_nil W2 W2.heap.size 2 1)
    have C0 := Lib.hid (Below.refl W2.heap.size W2)
    go_loopw [9, 22] (fun v i wr => ∃ q : Nat, q ≤ m ∧ i = .int .i64 q ∧ Hid (wr.ownsRow W2.heap.size 2 1 v q ((nums (lostG F h) q).map (Value.int .i64))) ∧ Hid (Below W2.heap.size W2 wr)) (fun _ i _ => m - (intOf i).toNat)
    case atStart => exact ⟨0, by omega, rfl, HR0, C0⟩
    case round =>
      clear HR0 C0
      obtain ⟨k, hk, rfl, hO, hB2⟩ := hrel
      have hbw := Lib.hid (HB2.out.trans (hB2.out.mono HB2.out.size))
      by_cases hlt : k < m
      · have hx := HH.out k hlt
        have hpk := Lib.hid (HO.out k hlt)
        obtain ⟨x, hxv⟩ : ∃ x, h k = x := ⟨_, rfl⟩
        have HX := Lib.hid hxv
        have hwi := worthA_in hpk.out x
        obtain ⟨h01, h02⟩ := (plotOk_iff.1 hpk.out).1
        obtain ⟨v, hv⟩ : ∃ v, worthA (F k) x = v := ⟨_, rfl⟩
        have HV := Lib.hid hv
        rw [hv] at hwi
        obtain ⟨z, hz⟩ : ∃ z, F k 0 - v = z := ⟨_, rfl⟩
        have hzr : 0 ≤ z ∧ z ≤ 1000 := by omega
        have HS := Lib.hid (show nums (lostG F h) (k + 1) = nums (lostG F h) k ++ [z] by rw [nums_succ7]; unfold lostG; rw [HX.out, hv, hz])
        have HZ := Lib.hid hz
        have d0 := (HI2.out.later hbw.out) k hlt
        rw [Nat.zero_add] at d0
        rw [hxv] at d0 hx
        obtain ⟨f, hf⟩ : ∃ f, F k 0 = f := ⟨_, rfl⟩
        clear hxv hv
        obtain ⟨L, hL⟩ : ∃ L, nums (lostG F h) k = L := ⟨_, rfl⟩
        have hLl : L.length = k := by rw [← hL, nums_length]
        rw [hL] at hO HS
        clear hL
        go_upto_region 8 with (fail)
        clear d0
        have g1 : Hid (∀ w', Below wr.heap.size wr w' → w'.rangeAt b (0 + k * 4) (srow ksPlot F k).toList) := Lib.hid (fun w' hw' => InS.elem (ks := ksPlot) HI.out (by decide) (hbw.out.trans (hw'.mono hbw.out.size)) hlt)
        have g3 : Hid (∀ w', Below wr.heap.size wr w' → w'.cell? ⟨b, 0 + k * 4, none⟩ = some (.int .i16 f)) := Lib.hid (fun w' hw' => by have h9 := (row_at (HI.out.later (hbw.out.trans (hw'.mono hbw.out.size))) hlt).c0; rw [hf] at h9; rw [Nat.zero_add]; exact h9)
        have hwr : IntKind.i64.wrap (f - v) = z := by rw [← hf, HZ.out]; exact IntWalk.i64_in _ (by omega)
        have hwf : IntKind.i64.wrap f = f := IntWalk.i64_in _ (by omega)
        refine wp_region_rel_tail 15 (DL [dV (u9), dV (.slice (some ⟨b, 0, none⟩) m c), dV (.int .i64 (k : Int)), dV (.pointer (some ⟨b, 0 + k * 4, none⟩)), dV (.pointer (some ⟨b, 0 + k * 4, none⟩)), dV (.int .i16 f), dV (.int .i64 f), dV (.slice (some ⟨b, 0, none⟩) m c), dV (.int .i64 (k : Int)), dV (.pointer (some ⟨b, 0 + k * 4, none⟩)), dV (.agg (srow ksPlot F k)), dV (.int .i64 x), dV (.int .i64 v), dV (.int .i64 z), dP (fun v _ _ w9 => ∃ nb, v = .slice (some ⟨nb, 0, none⟩) 1 1 ∧ w9.cell? ⟨nb, 0, none⟩ = some (.int .i64 z))]) (fun w' => Below wr.heap.size wr w') (by kernel_rfl) (by kernel_rfl) (fun _ _ h h' => h.trans (h'.mono h.size))
          (stays_DL (fun d hd => by
            simp only [List.mem_cons, List.mem_nil_iff, or_false] at hd
            rcases hd with rfl | rfl | rfl | rfl | rfl | rfl | rfl | rfl | rfl | rfl | rfl | rfl | rfl | rfl | rfl <;> first | exact stay_V | exact stay_P)) (Below.refl _ _).drew ?_
        refine rel_val _ rfl rfl (fun _ _ => rfl) (fun _ => ?_)
        simp only [Act.put, List.setIfInBounds_toArray, List.set_cons_zero, List.set_cons_succ]
        refine rel_val _ rfl rfl (fun _ _ => rfl) (fun _ => ?_)
        simp only [Act.put, List.setIfInBounds_toArray, List.set_cons_zero, List.set_cons_succ]
        refine rel_val _ rfl rfl (fun _ _ => rfl) (fun _ => ?_)
        simp only [Act.put, List.setIfInBounds_toArray, List.set_cons_zero, List.set_cons_succ]
        refine rel_index 25 48 _ _ rfl b 0 m c 4 k rfl rfl hlt Tryd.underlying25 (by kernel_rfl) rfl rfl (fun _ => ?_)
        simp only [Act.put, List.setIfInBounds_toArray, List.set_cons_zero, List.set_cons_succ]
        refine rel_val (.pointer (some ⟨b, 0 + k * 4, none⟩)) rfl rfl (fun w' _ => by simp [execOp, Act.eval, go_sem]) (fun _ => ?_)
        simp only [Act.put, List.setIfInBounds_toArray, List.set_cons_zero, List.set_cons_succ]
        refine rel_cell 46 _ rfl (b) (0 + k * 4) rfl (.int .i16 f) rfl rfl (fun w' c => load_q16 _ _ _ w' c) (fun w' hw' => g3.out w' hw') (fun _ => ?_)
        simp only [Act.put, List.setIfInBounds_toArray, List.set_cons_zero, List.set_cons_succ]
        refine rel_val (.int .i64 f) rfl rfl (fun w' _ => by simp [execOp, Act.eval, go_sem, hwf]) (fun _ => ?_)
        simp only [Act.put, List.setIfInBounds_toArray, List.set_cons_zero, List.set_cons_succ]
        refine rel_val _ rfl rfl (fun _ _ => rfl) (fun _ => ?_)
        simp only [Act.put, List.setIfInBounds_toArray, List.set_cons_zero, List.set_cons_succ]
        refine rel_val _ rfl rfl (fun _ _ => rfl) (fun _ => ?_)
        simp only [Act.put, List.setIfInBounds_toArray, List.set_cons_zero, List.set_cons_succ]
        refine rel_index 25 48 _ _ rfl b 0 m c 4 k rfl rfl hlt Tryd.underlying25 (by kernel_rfl) rfl rfl (fun _ => ?_)
        simp only [Act.put, List.setIfInBounds_toArray, List.set_cons_zero, List.set_cons_succ]
        refine rel_load 48 _ rfl b (0 + k * 4) rfl (srow ksPlot F k) _ rfl rfl g1.out Tryd.underlying48 rfl (by rw [srow_size]; kernel_rfl) (fun _ => ?_)
        simp only [Act.put, List.setIfInBounds_toArray, List.set_cons_zero, List.set_cons_succ]
        refine rel_val _ rfl rfl (fun _ _ => rfl) (fun _ => ?_)
        simp only [Act.put, List.setIfInBounds_toArray, List.set_cons_zero, List.set_cons_succ]
        refine rel_call (.int .i64 v) 42 #[.agg (srow ksPlot F k), .int .i64 x] rfl rfl rfl rfl (enters_of Tryd.func42 (by kernel_rfl) rfl) (fun w' _ => by have h9 := worthOn_any (F k) hpk.out x (by omega) w'; rw [HV.out] at h9; exact h9) (fun _ => ?_)
        simp only [Act.put, List.setIfInBounds_toArray, List.set_cons_zero, List.set_cons_succ]
        refine rel_val (.int .i64 z) rfl rfl (fun w' _ => by simp [execOp, Act.eval, go_sem, hwr]) (fun _ => ?_)
        simp only [Act.put, List.setIfInBounds_toArray, List.set_cons_zero, List.set_cons_succ]
        refine rel_runP _ rfl rfl (fun w9 _ => ⟨.slice (some ⟨w9.heap.size, 0, none⟩) 1 1, w9.alloc (.cells #[.int .i64 z] 2), by simp [execOp, Act.eval, go_sem], (Below.refl _ _).alloc (Nat.le_refl _) _, fun w8 hb8 => ⟨_, rfl, cell_later ((Blk.new w9 #[.int .i64 z] 2).cell (i := 0) rfl) hb8⟩⟩) (fun v2 lo hi hle hv2 => ?_)
        obtain ⟨_, _, nb0, rfl, _⟩ := hv2
        simp only [Act.put, List.setIfInBounds_toArray, List.set_cons_zero, List.set_cons_succ]
        refine rel_nil (fun W5 inv => ?_)
        have hb5 := inv.cls
        obtain ⟨_, _, _, ⟨nb, enb, hnb⟩, _⟩ := inv.fact 14 _ rfl
        obtain rfl : nb0 = nb := by simpa using enb
        clear inv enb
        have hO5 := Lib.hid (owns_below hO.out hb5)
        have hB5 := Lib.hid (hB2.out.trans (hb5.mono hB2.out.size))
        have hbs := hB5.out.size
        clear hO
        change wpList _ _ _ (_ :: [_]) _ _
        go_wp2_with (at_builtin; refine wpList_append_own _ rfl _ _ 34 rfl W2.heap.size 2 i0 (.int .i64 0) 1 8 Tryd.underlying34 hinf hz0 hz1 hz2 rfl (by decide) _ _ _ rfl hO5.out ⟨nb0, 0, none⟩ 1 1 [.int .i64 z] rfl rfl ?c1 ?c2 ?c3 ?c4 ?c5 ?_)
        try (case c1 =>
          intro y u hqu
          have hq0 : y = 0 := by have := (List.getElem?_eq_some_iff.1 hqu).1; simp at this; exact this
          subst hq0
          simp at hqu
          subst hqu
          try rw [Addr.add_lit]
          exact hnb)
        try (case c2 => first | rfl | (intro u hu; simp at hu; subst hu; rfl))
        try (case c3 => first | (unfold maxLen; omega) | omega | (simp [maxLen]; omega))
        try (case c4 => first | omega | (simp; omega))
        try (case c5 => first | (simp; omega) | omega)
        intro v2 w2 ho2 hg2 _
        have C2 := Lib.hid (below_own hB5.out hbs hO5.out hg2)
        have O2 : Hid (w2.ownsRow W2.heap.size 2 1 v2 (k + 1) ((nums (lostG F h) (k + 1)).map (Value.int .i64))) := Lib.hid (by rw [HS.out, List.map_append]; exact ho2)
        clear ho2 hg2
        go_wp2_with fail
        go_roundw
        case rel => exact ⟨k + 1, by omega, by go_num, O2, C2⟩
        case measure => simp [intOf]; omega
      · obtain rfl : k = m := by omega
        go_wp2_with fail
        go_ret2
        exact losP_ok HP.out _ s2 hO.out hbw.out
end Go.Proofs.YtmiafnmenolemaaDoor
