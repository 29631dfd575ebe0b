/-
  FalseClaims: the model's, the program's.
-/
import Derived.Test.YtgnfpmpjmliegaaDoorClaimM
import Derived.Test.YtgnfpmpjmliegaaDoorLstN
namespace Go.Proofs.YtgnfpmpjmliegaaDoor
open Go Go.RowKit

/-- The owners below n who claim more than their loss. -/
def falseL (B c : Nat → Int) : Nat → List Int
  | 0 => []
  | n + 1 => if B n < c n then falseL B c n ++ [(n : Int)] else falseL B c n
theorem falseL_yes {B c : Nat → Int} {n : Nat} (h : B n < c n) : falseL B c (n + 1) = falseL B c n ++ [(n : Int)] := if_pos h
theorem falseL_no {B c : Nat → Int} {n : Nat} (h : ¬ B n < c n) : falseL B c (n + 1) = falseL B c n := if_neg h
theorem falseL_le (B c : Nat → Int) : ∀ n : Nat, (falseL B c n).length ≤ n
  | 0 => Nat.le_refl _
  | n + 1 => by
    have := falseL_le B c n
    rw [falseL]
    split <;> simp <;> omega
def falseList (f g : Fd) (o : Nat → Int) (z : Nat) (c : Nat → Int) : List Int := if claimCode f g o z c = 0 then falseL (byTo f g o 100) c 10 else []
theorem falseList_le (f g : Fd) (o : Nat → Int) (z : Nat) (c : Nat → Int) : (falseList f g o z c).length ≤ 10 := by
  unfold falseList; split
  · exact falseL_le _ _ 10
  · simp
def FalseP (f g : Fd) (o : Nat → Int) (z : Nat) (c : Nat → Int) (w : World) (e : Ending) (w' : World) : Prop :=
  ∃ p k, e = .returned (.tuple #[.slice p (falseList f g o z c).length k, .int .i64 (claimCode f g o z c)]) ∧ NV w.heap.size w'.heap.size w' p (falseList f g o z c).length (fun i => (falseList f g o z c).getD i 0) ∧ NW w.heap.size w'.heap.size w' p (falseList f g o z c).length ∧ Below w.heap.size w w'
theorem falseP_bad {f g : Fd} {o : Nat → Int} {z : Nat} {c : Nat → Int} {w w' : World} (h : claimCode f g o z c ≠ 0) (p : Option Addr) (k : Nat) (hb : Below w.heap.size w w') : FalseP f g o z c w (.returned (.tuple #[.slice p 0 k, .int .i64 (claimCode f g o z c)])) w' := by
  have hN : falseList f g o z c = [] := if_neg h
  exact ⟨p, k, by rw [hN]; rfl, .inl (by rw [hN]; rfl), .inl (by rw [hN]; rfl), hb⟩
theorem falseP_ok {f g : Fd} {o : Nat → Int} {z : Nat} {c : Nat → Int} {w w' : World} {v : Value} {l : List Int} (h : claimCode f g o z c = 0) (hl : falseL (byTo f g o 100) c 10 = l) (lo : Nat) (hlo : w.heap.size ≤ lo) (ho : w'.ownsRow lo 2 1 v l.length (l.map (Value.int .i64))) (hb : Below w.heap.size w w') : FalseP f g o z c w (.returned (.tuple #[v, .int .i64 0])) w' := by
  have hN : falseList f g o z c = l := by unfold falseList; rw [if_pos h]; exact hl
  obtain ⟨p, k, rfl, V, X⟩ := Nown rfl ho
  exact ⟨p, k, by rw [hN, h], by rw [hN]; exact V.mono hlo (Nat.le_refl _), by rw [hN]; exact X.mono hlo (Nat.le_refl _), hb⟩
set_option maxRecDepth 100000 in
set_option maxHeartbeats 8000000 in
theorem specFalseClaims (f g : Fd) (hf : f.Wf) (hg : g.Wf) (o : Nat → Int) (ho : WfO o) (z : Nat) (hz : z ≤ 2 ^ 40) (c : Nat → Int) (bc cp : Nat) (w : World) (I : InI w bc 0 z c) :
    Calls Tryd.prog 13 #[.agg (fcells f), .agg (fcells g), .agg (acells .i8 100 o), .slice (some ⟨bc, 0, none⟩) z cp] w (FalseP f g o z c w) := by
  have HI := Lib.hid I
  clear I
  obtain ⟨i0, hinf, hz0, hz1, hz2⟩ := info_parts Ninfo
  by_cases h0 : claimCode f g o z c = 0
  · have H0 := Lib.hid h0
    obtain ⟨k0, rfl, _⟩ := claim_fine h0
    obtain ⟨hfit, hp⟩ := ownedCode_fine k0
    obtain ⟨h1, h2, _, _⟩ := pairCode_fine hp
    obtain ⟨B, hBB⟩ : ∃ B, byTo f g o 100 = B := ⟨_, rfl⟩
    have HBB := Lib.hid hBB
    clear h0 k0 hp hBB
    go_enter Tryd.func13, Tryd.ntmps13
    go_upto_region 1 with (fail)
    obtain ⟨W, hW, M⟩ := open3 w (fcells f) 32 (fcells g) 32 (acells .i8 100 o) 34
    rw [hW]; clear hW
    go_upto_region 5 with (first
      | (go_at_call 15; refine (l06Claimed_any f g hf hg o ho _ hz c _ _ _ bc cp _ (M.at 0 rfl) (M.at 1 rfl) (M.at 2 rfl) (HI.out.later M.below)).mono ?_; rintro e W2 ⟨rfl, hb⟩; rw [H0.out]; have M2 := M.call hb; clear hb)
      | (go_at_call 16; refine (l06ByOwner_any f g h1 h2 o hfit _ _ _ _ (M2.at 0 rfl) (M2.at 1 rfl) (M2.at 2 rfl)).mono ?_; rintro e W3 ⟨bs, rfl, hle, hBv, hb3⟩; have M3 := Lib.hid (M2.call hb3); rw [HBB.out] at hBv; have HBv := Lib.hid hBv; clear hb3 hBv))
    have s3 := M3.out.below.size
    have R0 : (W3.alloc (.cells #[] 2)).ownsRow W3.heap.size 2 1 (.slice (some ⟨W3.heap.size, 0, none⟩) 0 0) 0 [] := World.ownsRow_made W3 #[] 0 (Nat.le_refl _) (Nat.zero_le _) (by simp)
    have HR0 := Lib.hid R0
    have C0 := Lib.hid ((Below.refl W3.heap.size W3).alloc (Nat.le_refl _) (.cells #[] 2))
    have HI3 := Lib.hid (HI.out.later M3.out.below)
    clear R0 M M2
    go_wp2_with fail
    go_loopw [12, 13] (fun v i wr => ∃ q : Nat, q ≤ 10 ∧ i = .int .i64 q ∧ Hid (wr.ownsRow W3.heap.size 2 1 v (falseL B c q).length ((falseL B c q).map (Value.int .i64))) ∧ Hid (Below W3.heap.size W3 wr)) (fun _ i _ => 10 - (intOf i).toNat)
    case atStart => exact ⟨0, by omega, rfl, HR0, C0⟩
    case round =>
      clear HR0 C0
      obtain ⟨q, hq, rfl, hO, hB2⟩ := hrel
      by_cases hlt : q < 10
      · have cB := (HBv.out.later hB2.out).cell (acells_get _ _ _ q hlt)
        have cC := (HI3.out.later hB2.out) q hlt
        rw [Nat.zero_add] at cC
        have hlen := falseL_le B c q
        by_cases hqq : B q < c q
        · have e := Lib.hid (falseL_yes hqq)
          have hq10 : (q : Int) < 10 := by omega
          go_wp2_with fail
          go_region
          have hO9 : Hid (wr.drew.ownsRow W3.heap.size 2 1 _ (falseL B c q).length ((falseL B c q).map (Value.int .i64))) := Lib.hid hO.out
          have hB9 := Lib.hid hB2.out.drew
          clear hO hB2 cB cC
          generalize wr.drew = wd at hO9 hB9 ⊢
          have hO := hO9
          have hB2 := hB9
          clear hO9 hB9
          have cB : True := trivial
          have cC : True := trivial
          have hbs := hB2.out.size
          have HO1 := Lib.hid (hO.out.alloc (.cells #[.int .i64 q] 2))
          obtain ⟨L, hL⟩ : ∃ L, falseL B c q = L := ⟨_, rfl⟩
          rw [hL] at HO1 e hlen
          clear hO hL
          go_wp2_with (at_builtin; refine wpList_append_own _ rfl _ _ 29 rfl W3.heap.size 2 i0 (.int .i64 0) 1 8 Tryd.underlying29 hinf hz0 hz1 hz2 rfl (by decide) _ _ _ rfl HO1.out ⟨wd.heap.size, 0, none⟩ 1 1 [.int .i64 q] rfl rfl ?c1 ?c2 ?c3 ?c4 ?c5 ?_)
          case c1 =>
            intro y u hqu
            have hq0 : y = 0 := by have := (List.getElem?_eq_some_iff.1 hqu).1; simp at this; exact this
            subst hq0
            simp at hqu
            subst hqu
            rw [Addr.add_lit]
            exact (Blk.new wd #[.int .i64 q] 2).cell rfl
          case c2 => intro u hu; simp at hu; subst hu; rfl
          case c3 => unfold maxLen; omega
          case c4 => omega
          case c5 => simp; omega
          intro v2 w2 ho2 hg2 _
          have C2 := Lib.hid (below_own (hB2.out.alloc hB2.out.size (.cells #[.int .i64 q] 2)) (by simp; omega) HO1.out hg2)
          have O2 : Hid (w2.ownsRow W3.heap.size 2 1 v2 (falseL B c (q + 1)).length ((falseL B c (q + 1)).map (Value.int .i64))) := Lib.hid (by rw [e.out, List.length_append, List.map_append]; exact ho2)
          clear ho2 hg2 cB cC
          go_wp2_with fail
          go_roundw
          case rel => exact ⟨q + 1, by omega, by go_num, O2, C2⟩
          case measure => simp [intOf]; omega
        · have e := Lib.hid (falseL_no hqq)
          have hq10 : (q : Int) < 10 := by omega
          go_wp2_with fail
          go_region
          have hO9 : Hid (wr.drew.ownsRow W3.heap.size 2 1 _ (falseL B c q).length ((falseL B c q).map (Value.int .i64))) := Lib.hid hO.out
          have hB9 := Lib.hid hB2.out.drew
          go_wp2_with fail
          go_roundw
          case rel => exact ⟨q + 1, by omega, by go_num, by rw [e.out]; exact hO9, hB9⟩
          case measure => simp [intOf]; omega
      · obtain rfl : q = 10 := by omega
        go_wp2_with fail
        go_ret2
        exact falseP_ok H0.out (by rw [HBB.out]) _ s3 hO.out (M3.out.below.trans (hB2.out.mono s3))
  · have H0 := Lib.hid h0
    have hne : (claimCode f g o z c != 0) = true := by simpa using h0
    clear h0
    go_enter Tryd.func13, Tryd.ntmps13
    go_upto_region 1 with (fail)
    obtain ⟨W, hW, M⟩ := open3 w (fcells f) 32 (fcells g) 32 (acells .i8 100 o) 34
    rw [hW]; clear hW
    go_wp2_with (go_at_call 15; refine (l06Claimed_any f g hf hg o ho _ hz c _ _ _ bc cp _ (M.at 0 rfl) (M.at 1 rfl) (M.at 2 rfl) (HI.out.later M.below)).mono ?_; rintro e W2 ⟨rfl, hb⟩; have M2 := M.call hb; clear hb)
    go_ret2
    exact falseP_bad H0.out _ _ (M2.alloc #[] 2).below
set_option maxRecDepth 100000 in
set_option maxHeartbeats 8000000 in
theorem implFalseClaims (f g : Fd) (hf : f.Wf) (hg : g.Wf) (o : Nat → Int) (ho : WfO o) (z : Nat) (hz : z ≤ 2 ^ 40) (c : Nat → Int) (bc cp : Nat) (A : Nat → Addr) (w : World) (I : InI w bc 0 z c) (S0 : Sents w A) :
    Calls Tryd.prog 14 #[.agg (fcells f), .agg (fcells g), .agg (acells .i8 100 o), .slice (some ⟨bc, 0, none⟩) z cp] w (FalseP f g o z c w) := by
  have HI := Lib.hid I
  have S := Lib.hid S0
  clear I S0
  have hif := isIfaceErr
  obtain ⟨i0, hinf, hz0, hz1, hz2⟩ := info_parts Ninfo
  by_cases h0 : claimCode f g o z c = 0
  · have H0 := Lib.hid h0
    obtain ⟨_, hz10, _⟩ := claim_fine h0
    obtain ⟨B, hBB⟩ : ∃ B, byTo f g o 100 = B := ⟨_, rfl⟩
    have HBB := Lib.hid hBB
    clear h0 hBB
    subst hz10
    go_enter Tryd.func14, Tryd.ntmps14
    go_upto_region 1 with (fail)
    obtain ⟨W, hW, M⟩ := open3 w (fcells f) 32 (fcells g) 32 (acells .i8 100 o) 34
    rw [hW]; clear hW
    have ok1 : True := trivial
    have ok2 : True := trivial
    go_upto_region 4 with (first
      | (clear ok1; (refine wpList_load_part rfl 32 _ rfl w.heap.size 0 rfl (fcells f) _ (M.at 0 rfl).whole Tryd.underlying32 rfl (by rw [fcells_size]; exact sizeFd) ?_))
      | (clear ok2; (refine wpList_load_part rfl 32 _ rfl (w.heap.size + 1) 0 rfl (fcells g) _ (M.at 1 rfl).whole Tryd.underlying32 rfl (by rw [fcells_size]; exact sizeFd) ?_))
      | (refine wpList_load_part rfl 34 _ rfl (w.heap.size + 1 + 1) 0 rfl (acells .i8 100 o) _ (M.at 2 rfl).whole Tryd.underlying34 rfl (by rw [acells_size]; exact sizeOw) ?_)
      | (go_at_call 20; refine (lossesFor_ok f g hf hg o ho _ hz c H0.out bc cp A _ (HI.out.later M.below) (S.out.later M.below)).mono ?_; rintro e W3 ⟨bs, rfl, hle, hBv, hb3⟩; have M3 := Lib.hid (M.call hb3); rw [HBB.out] at hBv; have HBv := Lib.hid hBv; clear hb3 hBv))
    have s3 := M3.out.below.size
    have HR0 := Lib.hid (World.ownsRow_nil W3 W3.heap.size 2 1)
    have C0 := Lib.hid (Below.refl W3.heap.size W3)
    have HI3 := Lib.hid (HI.out.later M3.out.below)
    clear M
    go_wp2_with fail
    go_loopw [12, 13, 14, 29] (fun v _ _ i wr => ∃ q : Nat, q ≤ 10 ∧ i = .int .i64 q ∧ Hid (wr.ownsRow W3.heap.size 2 1 v (falseL B c q).length ((falseL B c q).map (Value.int .i64))) ∧ Hid (Below W3.heap.size W3 wr)) (fun _ _ _ i _ => 10 - (intOf i).toNat)
    case atStart => exact ⟨0, by omega, rfl, HR0, C0⟩
    case round =>
      clear HR0 C0
      obtain ⟨q, hq, rfl, hO, hB2⟩ := hrel
      by_cases hlt : q < 10
      · have cB := (HBv.out.later hB2.out).cell (acells_get _ _ _ q hlt)
        have cC := (HI3.out.later hB2.out) q hlt
        rw [Nat.zero_add] at cC
        have hlen := falseL_le B c q
        by_cases hqq : B q < c q
        · have e := Lib.hid (falseL_yes hqq)
          have hbs := hB2.out.size
          have HO1 := Lib.hid (hO.out.alloc (.cells #[.int .i64 q] 2))
          obtain ⟨L, hL⟩ : ∃ L, falseL B c q = L := ⟨_, rfl⟩
          rw [hL] at HO1 e hlen
          clear hO hL
          go_wp2_with (at_builtin; refine wpList_append_own _ rfl _ _ 29 rfl W3.heap.size 2 i0 (.int .i64 0) 1 8 Tryd.underlying29 hinf hz0 hz1 hz2 rfl (by decide) _ _ _ rfl HO1.out ⟨wr.heap.size, 0, none⟩ 1 1 [.int .i64 q] rfl rfl ?c1 ?c2 ?c3 ?c4 ?c5 ?_)
          case c1 =>
            intro y u hqu
            have hq0 : y = 0 := by have := (List.getElem?_eq_some_iff.1 hqu).1; simp at this; exact this
            subst hq0
            simp at hqu
            subst hqu
            rw [Addr.add_lit]
            exact (Blk.new wr #[.int .i64 q] 2).cell rfl
          case c2 => intro u hu; simp at hu; subst hu; rfl
          case c3 => unfold maxLen; omega
          case c4 => omega
          case c5 => simp; omega
          intro v2 w2 ho2 hg2 _
          have C2 := Lib.hid (below_own (hB2.out.alloc hB2.out.size (.cells #[.int .i64 q] 2)) (by simp; omega) HO1.out hg2)
          have O2 : Hid (w2.ownsRow W3.heap.size 2 1 v2 (falseL B c (q + 1)).length ((falseL B c (q + 1)).map (Value.int .i64))) := Lib.hid (by rw [e.out, List.length_append, List.map_append]; exact ho2)
          clear ho2 hg2 cB cC
          go_wp2_with fail
          go_roundw
          case rel => exact ⟨q + 1, by omega, by go_num, O2, C2⟩
          case measure => simp [intOf]; omega
        · have e := Lib.hid (falseL_no hqq)
          go_wp2_with fail
          go_roundw
          case rel => exact ⟨q + 1, by omega, by go_num, by rw [e.out]; exact hO, hB2⟩
          case measure => simp [intOf]; omega
      · obtain rfl : q = 10 := by omega
        go_wp2_with fail
        go_ret2
        exact falseP_ok H0.out (by rw [HBB.out]) _ s3 hO.out (M3.out.below.trans (hB2.out.mono s3))
  · have H0 := Lib.hid h0
    obtain ⟨et, ev, hcall, hcode⟩ := lossesFor_err f g hf hg o ho z hz c h0
    clear h0
    go_enter Tryd.func14, Tryd.ntmps14
    go_upto_region 1 with (fail)
    obtain ⟨W, hW, M⟩ := open3 w (fcells f) 32 (fcells g) 32 (acells .i8 100 o) 34
    rw [hW]; clear hW
    have ok1 : True := trivial
    have ok2 : True := trivial
    go_wp2_with (first
      | (clear ok1; (refine wpList_load_part rfl 32 _ rfl w.heap.size 0 rfl (fcells f) _ (M.at 0 rfl).whole Tryd.underlying32 rfl (by rw [fcells_size]; exact sizeFd) ?_))
      | (clear ok2; (refine wpList_load_part rfl 32 _ rfl (w.heap.size + 1) 0 rfl (fcells g) _ (M.at 1 rfl).whole Tryd.underlying32 rfl (by rw [fcells_size]; exact sizeFd) ?_))
      | (refine wpList_load_part rfl 34 _ rfl (w.heap.size + 1 + 1) 0 rfl (acells .i8 100 o) _ (M.at 2 rfl).whole Tryd.underlying34 rfl (by rw [acells_size]; exact sizeOw) ?_)
      | (go_at_call 20; refine (hcall A bc cp _ (HI.out.later M.below) (S.out.later M.below)).mono ?_; rintro e W3 ⟨rfl, hb3⟩; have M3 := M.call hb3; clear hb3)
      | (go_at_call 21; refine (hcode A _ (S.out.later M3.below)).mono ?_; rintro e W5 ⟨rfl, hb⟩; have M5 := M3.call hb; clear hb))
    go_ret2
    exact falseP_bad H0.out _ _ M5.below
end Go.Proofs.YtgnfpmpjmliegaaDoor
