/-
  The targets of scarecrows that count: the model's list, the program's set.
-/
import Derived.Test.YteclngooblafoaaDoorSafeC
import Derived.Test.YteclngooblafoaaDoorCoreD
namespace Go.Proofs.YteclngooblafoaaDoor
open Go Go.RowKit

/-- Whether a cell of a set is soil. -/
def tgQ (f : Fd) (t : Nat → Int) (k : Nat) : Bool := f.K k == 0 && hasC t (k : Int)
/-- The targets that count. -/
def tgS (f : Fd) (t : Nat → Int) : Nat → Int := wantSet f (tgQ f t) 100
theorem tgS_has (f : Fd) (t : Nat → Int) {k : Nat} (hk : k < 100) : hasC (tgS f t) (k : Int) = ((isCell f (k : Int) && f.K k == 0) && hasC t (k : Int)) := by
  unfold tgS
  rw [hasC_want f _ hk, decide_eq_true hk, Bool.true_and]
  unfold tgQ
  rw [Bool.and_assoc]
theorem nums_hlist (g : Nat → Int) : ∀ n, n ≤ 100 → (numsTo g n).map (fun x => (x.1 : Int)) = hlist g n
  | 0, _ => rfl
  | n + 1, hn => by
    have ih := nums_hlist g n (by omega)
    cases hc : hasC g (n : Int) with
    | true => rw [numsTo_yes ⟨by omega, hc⟩, List.map_append, ih, hlist_hit hc]; rfl
    | false => rw [numsTo_no hc, ih, hlist_miss hc]
set_option maxHeartbeats 4000000 in
set_option maxRecDepth 100000 in
theorem l03Targets_any (f : Fd) (hf : f.Wf) (t : Nat → Int) (bf bt : Nat) (w : World) (B : Blk w bf (fcells f) 33) (T : Blk w bt (acells .u64 2 t) 35) :
    Calls Tryd.prog 23 #[.pointer (some ⟨bf, 0, none⟩), .pointer (some ⟨bt, 0, none⟩)] w fun e w' => ∃ v, e = .returned v ∧
      w'.ownsRow w.heap.size 2 1 v (hlist (tgS f t) 100).length ((hlist (tgS f t) 100).map (Value.int .i64)) ∧ Below w.heap.size w w' := by
  obtain ⟨i0, hi, hz0, hz1, hz2⟩ := info_parts infoI64
  have HS := Lib.hid (fun (k : Nat) (hk : k < 100) => tgS_has f t hk)
  generalize tgS f t = G at HS ⊢
  have HB := Lib.hid B
  have HT := Lib.hid T
  clear B T
  go_enter Tryd.func23, Tryd.ntmps23
  go_wp2
  go_loopw [5, 6] (fun v i wr => ∃ k : Nat, k ≤ 100 ∧ i = .int .i64 k ∧ wr.ownsRow w.heap.size 2 1 v (hlist G k).length ((hlist G k).map (Value.int .i64)) ∧ Below w.heap.size w wr)
    (fun _ i _ => 100 - (intOf i).toNat)
  case atStart =>
    refine ⟨0, Nat.zero_le _, rfl, ?_, ?_⟩
    · exact ⟨by simp [hlist], .inr ⟨w.heap.size, 0, #[], rfl, Nat.le_refl _, Blk.new _ _ _, Nat.le_refl _, by unfold maxLen; omega, rfl, by simp [hlist]⟩⟩
    · exact (Below.refl _ _).alloc (Nat.le_refl _) _
  case round =>
    obtain ⟨k, hk, rfl, hown, hnx⟩ := hrel
    have hle := hlist_le G k
    by_cases hlt : k < 100
    · have hBl := Lib.hid (HB.out.later hnx)
      have hTl := Lib.hid (HT.out.later hnx)
      have hG := HS.out k hlt
      cases hs : (isCell f (k : Int) && f.K k == 0) with
      | false =>
        rw [hs, Bool.false_and] at hG
        have HG := Lib.hid (hlist_miss hG)
        clear hG
        go_wp2_with (go_at_call 47; refine (l03Soil_any f hf k hlt bf _ hBl.out).mono ?_; rintro e w' ⟨rfl, rfl⟩; rw [hs])
        go_roundw
        case rel => exact ⟨k + 1, by omega, by go_num, by rw [HG.out]; exact hown, hnx⟩
        case measure => simp [intOf]; omega
      | true =>
        rw [hs, Bool.true_and] at hG
        cases hc : hasC t (k : Int) with
        | false =>
          rw [hc] at hG
          have HG := Lib.hid (hlist_miss hG)
          clear hG
          go_wp2_with (first
            | (go_at_call 47; refine (l03Soil_any f hf k hlt bf _ hBl.out).mono ?_; rintro e w' ⟨rfl, rfl⟩; rw [hs])
            | (go_at_call 24; refine (l01Has_any t _ bt _ hTl.out).mono ?_; rintro e w' ⟨rfl, rfl⟩; rw [hc]))
          go_roundw
          case rel => exact ⟨k + 1, by omega, by go_num, by rw [HG.out]; exact hown, hnx⟩
          case measure => simp [intOf]; omega
        | true =>
          rw [hc] at hG
          have HG := Lib.hid hG
          clear hG
          go_wp2_with (first
            | (at_builtin; refine wpList_append_own _ rfl _ _ 30 rfl w.heap.size 2 i0 (.int .i64 0) 1 8 Tryd.underlying30 hi hz0 hz1 hz2 rfl (by decide) _ _ _ rfl (hown.alloc _) ⟨wr.heap.size, 0, none⟩ 1 1 [.int .i64 k] rfl rfl ?c1 ?c2 ?c3 ?c4 ?c5 ?_)
            | (go_at_call 47; refine (l03Soil_any f hf k hlt bf _ hBl.out).mono ?_; rintro e w' ⟨rfl, rfl⟩; rw [hs])
            | (go_at_call 24; refine (l01Has_any t _ bt _ hTl.out).mono ?_; rintro e w' ⟨rfl, rfl⟩; rw [hc]))
          case c1 =>
            intro j u hj
            match j, hj with
            | 0, hj => simp at hj; subst hj; simp [Addr.add]
          case c2 => intro u hu; simp at hu; subst hu; rfl
          case c3 => unfold maxLen; omega
          case c4 => omega
          case c5 => have := hnx.size; simp; omega
          intro v' w1 hown' hgrow _
          have R := list_keep HG.out rfl hown hnx hown' hgrow
          clear hown' hgrow hown hnx hBl hTl
          go_wp2
          go_roundw
          case rel => exact ⟨k + 1, by omega, by simp, R.1, R.2⟩
          case measure => simp [intOf]; omega
    · obtain rfl : k = 100 := by omega
      go_wp2
      go_ret
      exact ⟨_, rfl, hown, hnx⟩
/-- What the closure of soilIn looks at. -/
def SoilE (f : Fd) (t : Nat → Int) (pb tb : Nat) (w : World) : Prop :=
  Blk w pb (fcells f) 33 ∧ Blk w tb (acells .u64 2 t) 35
theorem SoilE.later {f : Fd} {t : Nat → Int} {pb tb : Nat} {w w' : World} (h : SoilE f t pb tb w) (hb : Below w.heap.size w w') : SoilE f t pb tb w' := ⟨h.1.later hb, h.2.later hb⟩
set_option maxRecDepth 100000 in
set_option maxHeartbeats 2000000 in
theorem soil_closure (f : Fd) (hf : f.Wf) (hok : okF f = true) (t : Nat → Int) (pb tb : Nat) (k : Nat) (hc : isCell f (k : Int) = true) (w : World) (E : SoilE f t pb tb w) :
    Calls Tryd.prog 58 #[.int .i64 k, .pointer (some ⟨pb, 0, none⟩), .pointer (some ⟨tb, 0, none⟩)] w fun e w' => e = .returned (.bool (tgQ f t k)) ∧ Below w.heap.size w w' := by
  have HE := Lib.hid E
  clear E
  have hin := cell_in hc
  have hk : k < 100 := by omega
  cases hkv : (f.K k == 0) with
  | false =>
    have hq : tgQ f t k = false := by unfold tgQ; rw [hkv]; rfl
    rw [hq]
    have hsoil : Hid ((isCell f (k : Int) && f.K k == 0) = false) := Lib.hid (by rw [hkv, Bool.and_false])
    clear hq
    go_enter Tryd.func58, Tryd.ntmps58
    go_wp2_with (first
      | (refine wpList_load_part rfl 33 _ rfl pb 0 rfl (fcells f) _ HE.out.1.whole Tryd.underlying33 rfl (by rw [fcells_size]; exact sizeFd) ?_)
      | (go_at_call 59; refine (isSoil_any f hf hok k hk _).mono ?_; rintro e W2 ⟨rfl, hb⟩; rw [hsoil.out]; have HE2 := HE.out.later hb))
    go_ret
    exact ⟨rfl, hb⟩
  | true =>
    obtain ⟨hv, hh⟩ : ∃ hv, hasC t (k : Int) = hv := ⟨_, rfl⟩
    have HV := Lib.hid hh
    have hq : tgQ f t k = hv := by unfold tgQ; rw [hkv, hh]; rfl
    rw [hq]
    have hsoil : Hid ((isCell f (k : Int) && f.K k == 0) = true) := Lib.hid (by rw [hkv, hc]; rfl)
    clear hq hh
    go_enter Tryd.func58, Tryd.ntmps58
    go_wp2_with (first
      | (refine wpList_load_part rfl 33 _ rfl pb 0 rfl (fcells f) _ HE.out.1.whole Tryd.underlying33 rfl (by rw [fcells_size]; exact sizeFd) ?_)
      | (go_at_call 59; refine (isSoil_any f hf hok k hk _).mono ?_; rintro e W2 ⟨rfl, hb⟩; rw [hsoil.out]; have HE2 := HE.out.later hb)
      | (refine wpList_load_wanted rfl 35 _ rfl tb 0 rfl (acells .u64 2 t) _ HE2.2.whole Tryd.underlying35 rfl (by rw [acells_size]; exact sizeC) ?_)
      | (go_at_call 52; refine (hasCell_any t k _).mono ?_; rintro e W3 ⟨rfl, hb3⟩; rw [HV.out]))
    go_ret
    exact ⟨rfl, hb.trans (hb3.mono hb.size)⟩
set_option maxRecDepth 100000 in
set_option maxHeartbeats 2000000 in
theorem soilIn_any (f : Fd) (hf : f.Wf) (hok : okF f = true) (t : Nat → Int) (w : World) :
    Calls Tryd.prog 31 #[.agg (fcells f), .agg (acells .u64 2 t)] w fun e w' => e = .returned (.agg (acells .u64 2 (tgS f t))) ∧ Below w.heap.size w w' := by
  obtain ⟨G, hG⟩ : ∃ G, tgS f t = G := ⟨_, rfl⟩
  rw [hG]
  have HG : Hid (wantSet f (tgQ f t) 100 = G) := Lib.hid hG
  clear hG
  go_enter Tryd.func31, Tryd.ntmps31
  go_upto_region 1 with (fail)
  rw [zero2]
  obtain ⟨W, hW, M⟩ := open3 w (fcells f) 33 (acells .u64 2 t) 35 (acells .u64 2 (fun _ => 0)) 35
  rw [hW]; clear hW
  have hSE : SoilE f t w.heap.size (w.heap.size + 1) W := ⟨M.at 0 rfl, M.at 1 rfl⟩
  go_wp2_with (first
    | (refine wpList_load_part rfl 33 _ rfl (w.heap.size) 0 rfl (fcells f) _ (M.at 0 rfl).whole Tryd.underlying33 rfl (by rw [fcells_size]; exact sizeFd) ?_)
    | (go_at_call 57; refine (cellsWhere_any f hok 58 #[.pointer (some ⟨w.heap.size, 0, none⟩), .pointer (some ⟨w.heap.size + 1, 0, none⟩)] (tgQ f t) (SoilE f t w.heap.size (w.heap.size + 1)) (fun _ _ h hb => h.later hb) (fun k w' hk h => soil_closure f hf hok t _ _ k hk w' h) _ hSE (enters_of Tryd.func58 (by kernel_rfl) rfl)).mono ?_; rintro e W5 ⟨rfl, hb⟩; rw [HG.out]; have M5 := M.call hb; clear M hb)
    | (refine wpList_store_row rfl 35 _ _ rfl (w.heap.size + 1 + 1) (acells .u64 2 (G)) rfl rfl 35 _ (M5.at 2 rfl) (by rw [acells_size]; exact sizeC) (by simp only [acells_size]) (acells_one _ _ _) ?_))
  have M6 := M5.row 2 rfl (acells .u64 2 G)
  exact bodyPost_ret (results_cell_row rfl _ _ (w.heap.size + 1 + 1) 35 _ _ _ rfl (M6.at 2 rfl) Tryd.underlying35 rfl (by rw [acells_size]; exact sizeC)) rfl ⟨rfl, M6.below⟩
end Go.Proofs.YteclngooblafoaaDoor
