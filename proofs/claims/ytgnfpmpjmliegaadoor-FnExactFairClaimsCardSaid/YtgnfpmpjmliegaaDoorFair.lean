/-
  FairClaims: the model's, the program's.
-/
import Derived.Test.YtgnfpmpjmliegaaDoorClaimM
import Derived.Test.YtgnfpmpjmliegaaDoorLstN
import Derived.Test.YtgnfpmpjmliegaaDoorTurn
namespace Go.Proofs.YtgnfpmpjmliegaaDoor
open Go Go.RowKit

def fairG (f g : Fd) (o : Nat → Int) (c : Nat → Int) (i : Nat) : Int := minI (byTo f g o 100 i) (c i)
def fairList (f g : Fd) (o : Nat → Int) (z : Nat) (c : Nat → Int) : List Int := if claimCode f g o z c = 0 then nums (fairG f g o c) 10 else []
theorem nums_succ (h : Nat → Int) (n : Nat) : nums h (n + 1) = nums h n ++ [h n] := by simp [nums, List.range_succ]
theorem fairList_le (f g : Fd) (o : Nat → Int) (z : Nat) (c : Nat → Int) : (fairList f g o z c).length ≤ 10 := by
  unfold fairList; split
  · rw [nums_length]; omega
  · simp
def FairP (f g : Fd) (o : Nat → Int) (z : Nat) (c : Nat → Int) (w : World) (e : Ending) (w' : World) : Prop :=
  ∃ p k, e = .returned (.tuple #[.slice p (fairList f g o z c).length k, .int .i64 (claimCode f g o z c)]) ∧ NV w.heap.size w'.heap.size w' p (fairList f g o z c).length (fun i => (fairList f g o z c).getD i 0) ∧ NW w.heap.size w'.heap.size w' p (fairList f g o z c).length ∧ Below w.heap.size w w'
theorem fairP_bad {f g : Fd} {o : Nat → Int} {z : Nat} {c : Nat → Int} {w w' : World} (h : claimCode f g o z c ≠ 0) (p : Option Addr) (k : Nat) (hb : Below w.heap.size w w') : FairP f g o z c w (.returned (.tuple #[.slice p 0 k, .int .i64 (claimCode f g o z c)])) w' := by
  have hN : fairList f g o z c = [] := if_neg h
  exact ⟨p, k, by rw [hN]; rfl, .inl (by rw [hN]; rfl), .inl (by rw [hN]; rfl), hb⟩
theorem fairP_ok {f g : Fd} {o : Nat → Int} {z : Nat} {c : Nat → Int} {w w' : World} {v : Value} {l : List Int} (h : claimCode f g o z c = 0) (hl : nums (fairG f g o c) 10 = l) (lo : Nat) (hlo : w.heap.size ≤ lo) (ho : w'.ownsRow lo 2 1 v l.length (l.map (Value.int .i64))) (hb : Below w.heap.size w w') : FairP f g o z c w (.returned (.tuple #[v, .int .i64 0])) w' := by
  have hN : fairList f g o z c = l := by unfold fairList; rw [if_pos h]; exact hl
  obtain ⟨p, k, rfl, V, X⟩ := Nown rfl ho
  exact ⟨p, k, by rw [hN, h], by rw [hN]; exact V.mono hlo (Nat.le_refl _), by rw [hN]; exact X.mono hlo (Nat.le_refl _), hb⟩
theorem fairP_row {f g : Fd} {o : Nat → Int} {z : Nat} {c : Nat → Int} {w w' : World} {b : Nat} (h : claimCode f g o z c = 0) (h1 : w.heap.size ≤ b) (B : Blk w' b (acells .i64 10 (fairG f g o c)) 2) (hb : Below w.heap.size w w') : FairP f g o z c w (.returned (.tuple #[.slice (some ⟨b, 0, none⟩) 10 10, .int .i64 0])) w' := by
  have hN : fairList f g o z c = nums (fairG f g o c) 10 := if_pos h
  have hl : (fairList f g o z c).length = 10 := by rw [hN, nums_length]
  refine ⟨_, 10, by rw [hl, h], .inr ⟨b, 0, rfl, h1, B.lt, fun i hi => ?_⟩, .inr ⟨b, 0, _, rfl, h1, B.lt, by rw [acells_size, hl]; omega, B⟩, hb⟩
  rw [hl] at hi
  rw [Nat.zero_add, hN]
  show w'.cell? ⟨b, i, none⟩ = some (.int .i64 ((nums (fairG f g o c) 10).getD i 0))
  rw [nums_getD _ _ _ hi]
  exact B.cell (acells_get _ _ _ i hi)
def partG (B G : Nat → Int) (k i : Nat) : Int := if i < k then G i else B i
set_option maxRecDepth 100000 in
set_option maxHeartbeats 8000000 in
theorem specFairClaims (f g : Fd) (hf : f.Wf) (hg : g.Wf) (o : Nat → Int) (ho : WfO o) (z : Nat) (hz : z ≤ 2 ^ 40) (c : Nat → Int) (bc cp : Nat) (w : World) (I : InI w bc 0 z c) :
    Calls Tryd.prog 5 #[.agg (fcells f), .agg (fcells g), .agg (acells .i8 100 o), .slice (some ⟨bc, 0, none⟩) z cp] w (FairP f g o z c w) := by
  have HI := Lib.hid I
  clear I
  by_cases h0 : claimCode f g o z c = 0
  · have H0 := Lib.hid h0
    obtain ⟨k0, rfl, _⟩ := claim_fine h0
    obtain ⟨hfit, hp⟩ := ownedCode_fine k0
    obtain ⟨h1, h2, _, _⟩ := pairCode_fine hp
    obtain ⟨G, hG⟩ : ∃ G, fairG f g o c = G := ⟨_, rfl⟩
    have hGi0 : ∀ i, minI (byTo f g o 100 i) (c i) = G i := fun i => by rw [← hG]; rfl
    obtain ⟨B, hBB⟩ : ∃ B, byTo f g o 100 = B := ⟨_, rfl⟩
    rw [hBB] at hGi0
    have hGi := Lib.hid hGi0
    have HBB := Lib.hid hBB
    have HG := Lib.hid hG
    clear h0 k0 hp hBB hG hGi0
    go_enter Tryd.func5, Tryd.ntmps5
    go_upto_region 1 with (fail)
    obtain ⟨W, hW, M⟩ := open3 w (fcells f) 32 (fcells g) 32 (acells .i8 100 o) 34
    rw [hW]; clear hW
    go_upto_region 5 with (first
      | (go_at_call 15; refine (l06Claimed_any f g hf hg o ho _ hz c _ _ _ bc cp _ (M.at 0 rfl) (M.at 1 rfl) (M.at 2 rfl) (HI.out.later M.below)).mono ?_; rintro e W2 ⟨rfl, hb⟩; rw [H0.out]; have M2 := M.call hb; clear hb)
      | (go_at_call 16; refine (l06ByOwner_any f g h1 h2 o hfit _ _ _ _ (M2.at 0 rfl) (M2.at 1 rfl) (M2.at 2 rfl)).mono ?_; rintro e W3 ⟨bs, rfl, hle, hBv, hb3⟩; have M3 := (M2.call hb3).addNew (Nat.le_trans M2.below.size hle) (fun i e h => by have := M2.before i e h; omega) hBv))
    have hlo := Lib.hid (Nat.le_trans M2.below.size hle)
    have eB : byTo f g o 100 = partG B G 0 := by rw [HBB.out]; exact funext (fun i => by unfold partG; rw [if_neg (by omega)])
    rw [eB] at M3
    have M0 : Hid (Mem w W3 [⟨w.heap.size, fcells f, 32⟩, ⟨w.heap.size + 1, fcells g, 32⟩, ⟨w.heap.size + 1 + 1, acells .i8 100 o, 34⟩, ⟨bs, acells .i64 10 (partG B G 0), 2⟩]) := Lib.hid M3
    clear M M2 M3 hle hb3 hBv eB
    go_wp2_with fail
    go_loopw [12] (fun i wr => ∃ q : Nat, q ≤ 10 ∧ i = .int .i64 q ∧ Hid (Mem w wr [⟨w.heap.size, fcells f, 32⟩, ⟨w.heap.size + 1, fcells g, 32⟩, ⟨w.heap.size + 1 + 1, acells .i8 100 o, 34⟩, ⟨bs, acells .i64 10 (partG B G q), 2⟩])) (fun i _ => 10 - (intOf i).toNat)
    case atStart => exact ⟨0, by omega, rfl, M0⟩
    case round =>
      clear M0
      obtain ⟨q, hq, rfl, hM⟩ := hrel
      by_cases hlt : q < 10
      · have hq10 : (q : Int) < 10 := by omega
        have hBq : Hid (partG B G q q = B q) := Lib.hid (by unfold partG; rw [if_neg (by omega)])
        have hset := Lib.hid (show (acells .i64 10 (partG B G q)).setIfInBounds q (.int .i64 (G q)) = acells .i64 10 (partG B G (q + 1)) by
          rw [acells_set _ _ _ _ _ hlt]
          exact acells_congr (fun i _ => by
            unfold partG
            by_cases hi : i = q
            · rw [if_pos hi, if_pos (by omega), hi]
            · rw [if_neg hi]
              by_cases h3 : i < q
              · rw [if_pos h3, if_pos (by omega)]
              · rw [if_neg h3, if_neg (by omega)]))
        go_wp2_with fail
        refine wp_region_rel_tail 12 (DL [dV (.slice (some ⟨bs, 0, none⟩) 10 10), dV (.int .i64 (q : Int)), dV (.slice (some ⟨bs, 0, none⟩) 10 10), dV (.int .i64 (q : Int)), dV (.pointer (some ⟨bs, 0 + q * 1, none⟩)), dV (.int .i64 (B q)), dV (.slice (some ⟨bc, 0, none⟩) 10 cp), dV (.int .i64 (q : Int)), dV (.pointer (some ⟨bc, 0 + q * 1, none⟩)), dV (.int .i64 (c q)), dV (.int .i64 (G q)), dV (.pointer (some ⟨bs, 0 + q * 1, none⟩))]) (fun w' => Mem w w' [⟨w.heap.size, fcells f, 32⟩, ⟨w.heap.size + 1, fcells g, 32⟩, ⟨w.heap.size + 1 + 1, acells .i8 100 o, 34⟩, ⟨bs, acells .i64 10 (partG B G q), 2⟩]) (by kernel_rfl) (by kernel_rfl) grows_mem
          (stays_DL (fun d hd => by
            simp only [List.mem_cons, List.mem_nil_iff, or_false] at hd
            rcases hd with rfl | rfl | rfl | rfl | rfl | rfl | rfl | rfl | rfl | rfl | rfl | rfl <;> exact stay_V)) hM.out.drew ?_
        · skip
          refine rel_val _ rfl rfl (fun _ _ => rfl) (fun _ => ?_)
          simp only [Act.put, List.setIfInBounds_toArray, List.set_cons_zero, List.set_cons_succ]
          refine rel_val _ rfl rfl (fun _ _ => rfl) (fun _ => ?_)
          simp only [Act.put, List.setIfInBounds_toArray, List.set_cons_zero, List.set_cons_succ]
          refine rel_val _ rfl rfl (fun _ _ => rfl) (fun _ => ?_)
          simp only [Act.put, List.setIfInBounds_toArray, List.set_cons_zero, List.set_cons_succ]
          refine rel_val _ rfl rfl (fun _ _ => rfl) (fun _ => ?_)
          simp only [Act.put, List.setIfInBounds_toArray, List.set_cons_zero, List.set_cons_succ]
          refine rel_indexN 29 2 _ _ rfl bs 0 10 10 1 q rfl rfl hlt Tryd.underlying29 (by kernel_rfl) rfl rfl (fun _ => ?_)
          simp only [Act.put, List.setIfInBounds_toArray, List.set_cons_zero, List.set_cons_succ]
          refine rel_cell 2 _ rfl bs (0 + q * 1) rfl (.int .i64 (B q)) rfl rfl (fun w' c => load_n64 _ _ _ w' c) (fun w' hw' => by rw [Nat.zero_add, Nat.mul_one, ← hBq.out]; exact (hw'.at 3 rfl).cell (acells_get _ _ _ q hlt)) (fun _ => ?_)
          simp only [Act.put, List.setIfInBounds_toArray, List.set_cons_zero, List.set_cons_succ]
          refine rel_val _ rfl rfl (fun _ _ => rfl) (fun _ => ?_)
          simp only [Act.put, List.setIfInBounds_toArray, List.set_cons_zero, List.set_cons_succ]
          refine rel_val _ rfl rfl (fun _ _ => rfl) (fun _ => ?_)
          simp only [Act.put, List.setIfInBounds_toArray, List.set_cons_zero, List.set_cons_succ]
          refine rel_indexN 29 2 _ _ rfl bc 0 10 cp 1 q rfl rfl hlt Tryd.underlying29 (by kernel_rfl) rfl rfl (fun _ => ?_)
          simp only [Act.put, List.setIfInBounds_toArray, List.set_cons_zero, List.set_cons_succ]
          refine rel_cell 2 _ rfl bc (0 + q * 1) rfl (.int .i64 (c q)) rfl rfl (fun w' c => load_n64 _ _ _ w' c) (fun w' hw' => by rw [Nat.mul_one]; exact (HI.out.later hw'.below) q hlt) (fun _ => ?_)
          simp only [Act.put, List.setIfInBounds_toArray, List.set_cons_zero, List.set_cons_succ]
          refine rel_call (.int .i64 (G q)) 17 #[.int .i64 (B q), .int .i64 (c q)] rfl rfl rfl rfl (enters_of Tryd.func17 (by kernel_rfl) rfl) (fun w' _ => (l00Min_any (B q) (c q) w').mono (fun e w2 h => ⟨by rw [h.1, hGi.out], by rw [← h.2]; exact Below.refl _ _⟩)) (fun _ => ?_)
          simp only [Act.put, List.setIfInBounds_toArray, List.set_cons_zero, List.set_cons_succ]
          refine rel_indexN 29 2 _ _ rfl bs 0 10 10 1 q rfl rfl hlt Tryd.underlying29 (by kernel_rfl) rfl rfl (fun _ => ?_)
          simp only [Act.put, List.setIfInBounds_toArray, List.set_cons_zero, List.set_cons_succ]
          refine rel_nil (fun w9 inv => ?_)
          have M9 := inv.cls
          clear inv hM
          change wpList _ _ _ (_ :: []) _ _
          rw [Nat.zero_add, Nat.mul_one]
          have e4 := (M9.at 3 rfl).free q
          have c4 := (M9.at 3 rfl).cell (acells_get _ _ _ q hlt)
          have M10 := Lib.hid (M9.set 3 q (.int .i64 (G q)) rfl _ hset.out)
          clear M9
          go_wp2_with fail
          go_roundw
          case rel => exact ⟨q + 1, by omega, by go_num, M10⟩
          case measure => simp [intOf]; omega
      · obtain rfl : q = 10 := by omega
        go_wp2_with fail
        go_ret2
        exact fairP_row H0.out hlo.out (by
          have h := hM.out.at 3 rfl
          have e : acells .i64 10 (partG B G 10) = acells .i64 10 (fairG f g o c) := acells_congr (fun i hi => by unfold partG; rw [if_pos hi, HG.out])
          rw [e] at h; exact h) hM.out.below
  · have H0 := Lib.hid h0
    have hne : (claimCode f g o z c != 0) = true := by simpa using h0
    clear h0
    go_enter Tryd.func5, Tryd.ntmps5
    go_upto_region 1 with (fail)
    obtain ⟨W, hW, M⟩ := open3 w (fcells f) 32 (fcells g) 32 (acells .i8 100 o) 34
    rw [hW]; clear hW
    go_wp2_with (go_at_call 15; refine (l06Claimed_any f g hf hg o ho _ hz c _ _ _ bc cp _ (M.at 0 rfl) (M.at 1 rfl) (M.at 2 rfl) (HI.out.later M.below)).mono ?_; rintro e W2 ⟨rfl, hb⟩; have M2 := M.call hb; clear hb)
    go_ret2
    exact fairP_bad H0.out _ _ (M2.alloc #[] 2).below
set_option maxRecDepth 100000 in
set_option maxHeartbeats 8000000 in
theorem implFairClaims (f g : Fd) (hf : f.Wf) (hg : g.Wf) (o : Nat → Int) (ho : WfO o) (z : Nat) (hz : z ≤ 2 ^ 40) (c : Nat → Int) (bc cp : Nat) (A : Nat → Addr) (w : World) (I : InI w bc 0 z c) (S0 : Sents w A) :
    Calls Tryd.prog 9 #[.agg (fcells f), .agg (fcells g), .agg (acells .i8 100 o), .slice (some ⟨bc, 0, none⟩) z cp] w (FairP f g o z c w) := by
  have HI := Lib.hid I
  have S := Lib.hid S0
  clear I S0
  have hif := isIfaceErr
  obtain ⟨i0, hinf, hz0, hz1, hz2⟩ := info_parts Ninfo
  by_cases h0 : claimCode f g o z c = 0
  · have H0 := Lib.hid h0
    obtain ⟨_, hz10, _⟩ := claim_fine h0
    obtain ⟨G, hG⟩ : ∃ G, fairG f g o c = G := ⟨_, rfl⟩
    have hGm0 : ∀ i, minI (byTo f g o 100 i) (c i) = G i := fun i => by rw [← hG]; rfl
    obtain ⟨B, hBB⟩ : ∃ B, byTo f g o 100 = B := ⟨_, rfl⟩
    rw [hBB] at hGm0
    have hGm := Lib.hid hGm0
    have HBB := Lib.hid hBB
    have HG := Lib.hid hG
    clear h0 hBB hG hGm0
    subst hz10
    go_enter Tryd.func9, Tryd.ntmps9
    go_upto_region 1 with (fail)
    obtain ⟨W, hW, M⟩ := open3 w (fcells f) 32 (fcells g) 32 (acells .i8 100 o) 34
    rw [hW]; clear hW
    have ok1 : True := trivial
    have ok2 : True := trivial
    go_upto_region 4 with (first
      | (clear ok1; (refine wpList_load_part rfl 32 _ rfl w.heap.size 0 rfl (fcells f) _ (M.at 0 rfl).whole Tryd.underlying32 rfl (by rw [fcells_size]; exact sizeFd) ?_))
      | (clear ok2; (refine wpList_load_part rfl 32 _ rfl (w.heap.size + 1) 0 rfl (fcells g) _ (M.at 1 rfl).whole Tryd.underlying32 rfl (by rw [fcells_size]; exact sizeFd) ?_))
      | (refine wpList_load_part rfl 34 _ rfl (w.heap.size + 1 + 1) 0 rfl (acells .i8 100 o) _ (M.at 2 rfl).whole Tryd.underlying34 rfl (by rw [acells_size]; exact sizeOw) ?_)
      | (go_at_call 20; refine (lossesFor_ok f g hf hg o ho _ hz c H0.out bc cp A _ (HI.out.later M.below) (S.out.later M.below)).mono ?_; rintro e W3 ⟨bs, rfl, hle, hBv, hb3⟩; have M3 := Lib.hid (M.call hb3); rw [HBB.out] at hBv; have HBv := Lib.hid hBv; clear hb3 hBv))
    have s3 := M3.out.below.size
    have HR0 := Lib.hid (World.ownsRow_nil W3 W3.heap.size 2 1)
    have C0 := Lib.hid (Below.refl W3.heap.size W3)
    have HI3 := Lib.hid (HI.out.later M3.out.below)
    clear M
    go_wp2_with fail
    go_loopw [12, 13, 14, 29] (fun v _ _ i wr => ∃ q : Nat, q ≤ 10 ∧ i = .int .i64 q ∧ Hid (wr.ownsRow W3.heap.size 2 1 v (nums G q).length ((nums G q).map (Value.int .i64))) ∧ Hid (Below W3.heap.size W3 wr)) (fun _ _ _ i _ => 10 - (intOf i).toNat)
    case atStart => exact ⟨0, by omega, rfl, HR0, C0⟩
    case round =>
      clear HR0 C0
      obtain ⟨q, hq, rfl, hO, hB2⟩ := hrel
      by_cases hlt : q < 10
      · have cB := (HBv.out.later hB2.out).cell (acells_get _ _ _ q hlt)
        have cC := (HI3.out.later hB2.out) q hlt
        rw [Nat.zero_add] at cC
        have hlen : (nums G q).length ≤ 10 := by rw [nums_length]; omega
        have hmn : ∀ (ts : Array TypeId) (t : TypeId) (W : World), (Builtin.min_ ts t #[.int .i64 (c q), .int .i64 (B q)]).run Tryd.prog W = .ok (.int .i64 (G q)) W := fun ts t W => by
          have e : (if B q < c q then B q else c q) = G q := hGm.out q
          simp [Builtin.min_, Builtin.min2, e]
        have e := Lib.hid (nums_succ G q)
        have hbs := hB2.out.size
        have HO1 := Lib.hid (hO.out.alloc (.cells #[.int .i64 (G q)] 2))
        obtain ⟨L, hL⟩ : ∃ L, nums G q = L := ⟨_, rfl⟩
        rw [hL] at HO1 e hlen
        clear hO hL
        go_wp2_with (at_builtin; refine wpList_append_own _ rfl _ _ 29 rfl W3.heap.size 2 i0 (.int .i64 0) 1 8 Tryd.underlying29 hinf hz0 hz1 hz2 rfl (by decide) _ _ _ rfl HO1.out ⟨wr.heap.size, 0, none⟩ 1 1 [.int .i64 (G q)] rfl rfl ?c1 ?c2 ?c3 ?c4 ?c5 ?_)
        case c1 =>
          intro y u hqu
          have hq0 : y = 0 := by have := (List.getElem?_eq_some_iff.1 hqu).1; simp at this; exact this
          subst hq0
          simp at hqu
          subst hqu
          rw [Addr.add_lit]
          exact (Blk.new wr #[.int .i64 (G q)] 2).cell rfl
        case c2 => intro u hu; simp at hu; subst hu; rfl
        case c3 => unfold maxLen; omega
        case c4 => omega
        case c5 => simp; omega
        intro v2 w2 ho2 hg2 _
        have C2 := Lib.hid (below_own (hB2.out.alloc hB2.out.size (.cells #[.int .i64 (G q)] 2)) (by simp; omega) HO1.out hg2)
        have O2 : Hid (w2.ownsRow W3.heap.size 2 1 v2 (nums G (q + 1)).length ((nums G (q + 1)).map (Value.int .i64))) := Lib.hid (by rw [e.out, List.length_append, List.map_append]; exact ho2)
        clear ho2 hg2 cB cC
        go_wp2_with fail
        go_roundw
        case rel => exact ⟨q + 1, by omega, by go_num, O2, C2⟩
        case measure => simp [intOf]; omega
      · obtain rfl : q = 10 := by omega
        go_wp2_with fail
        go_ret2
        exact fairP_ok H0.out (by rw [HG.out]) _ s3 hO.out (M3.out.below.trans (hB2.out.mono s3))
  · have H0 := Lib.hid h0
    obtain ⟨et, ev, hcall, hcode⟩ := lossesFor_err f g hf hg o ho z hz c h0
    clear h0
    go_enter Tryd.func9, Tryd.ntmps9
    go_upto_region 1 with (fail)
    obtain ⟨W, hW, M⟩ := open3 w (fcells f) 32 (fcells g) 32 (acells .i8 100 o) 34
    rw [hW]; clear hW
    have ok1 : True := trivial
    have ok2 : True := trivial
    go_wp2_with (first
      | (clear ok1; (refine wpList_load_part rfl 32 _ rfl w.heap.size 0 rfl (fcells f) _ (M.at 0 rfl).whole Tryd.underlying32 rfl (by rw [fcells_size]; exact sizeFd) ?_))
      | (clear ok2; (refine wpList_load_part rfl 32 _ rfl (w.heap.size + 1) 0 rfl (fcells g) _ (M.at 1 rfl).whole Tryd.underlying32 rfl (by rw [fcells_size]; exact sizeFd) ?_))
      | (refine wpList_load_part rfl 34 _ rfl (w.heap.size + 1 + 1) 0 rfl (acells .i8 100 o) _ (M.at 2 rfl).whole Tryd.underlying34 rfl (by rw [acells_size]; exact sizeOw) ?_)
      | (go_at_call 20; refine (hcall A bc cp _ (HI.out.later M.below) (S.out.later M.below)).mono ?_; rintro e W3 ⟨rfl, hb3⟩; have M3 := M.call hb3; clear hb3)
      | (go_at_call 21; refine (hcode A _ (S.out.later M3.below)).mono ?_; rintro e W5 ⟨rfl, hb⟩; have M5 := M3.call hb; clear hb))
    go_ret2
    exact fairP_bad H0.out _ _ M5.below
end Go.Proofs.YtgnfpmpjmliegaaDoor
