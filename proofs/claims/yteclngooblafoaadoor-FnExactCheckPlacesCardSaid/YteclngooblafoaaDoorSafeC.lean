/-
  The soil cells with fear enough: the model's, the program's.
-/
import Derived.Test.YteclngooblafoaaDoorFearO
import Derived.Test.YteclngooblafoaaDoorPowC
import Derived.Test.YteclngooblafoaaDoorCoreD
namespace Go.Proofs.YteclngooblafoaaDoor
open Go Go.RowKit

/-- Whether a cell's fear is enough. -/
def safeQ (f : Fd) (F : Nat → Nat → Int) (n : Nat) (x : Int) (k : Nat) : Bool := f.K k == 0 && decide (x ≤ fearTo F k n)
theorem safeQ_soil {f : Fd} {F : Nat → Nat → Int} {n : Nat} {x : Int} {k : Nat} (h : (f.K k == 0) = false) : safeQ f F n x k = false := by unfold safeQ; rw [h]; rfl
theorem safeQ_fear {f : Fd} {F : Nat → Nat → Int} {n : Nat} {x : Int} {k : Nat} (h : (f.K k == 0) = true) {v : Int} (hv : fearTo F k n = v) : safeQ f F n x k = decide (x ≤ v) := by unfold safeQ; rw [h, hv]; rfl
def safeSet (f : Fd) (n : Nat) (F : Nat → Nat → Int) (x : Int) : Nat → Int := if okScares f n F && inB x 1 1000 then wantSet f (safeQ f F n x) 100 else fun _ => 0
theorem safeSet_yes {f : Fd} {n : Nat} {F : Nat → Nat → Int} {x : Int} (h : okScares f n F = true) (h2 : inB x 1 1000 = true) : safeSet f n F x = wantSet f (safeQ f F n x) 100 := by unfold safeSet; rw [h, h2]; rfl
theorem safeSet_no {f : Fd} {n : Nat} {F : Nat → Nat → Int} {x : Int} (h : okScares f n F = false) : safeSet f n F x = fun _ => 0 := by unfold safeSet; rw [h]; rfl
theorem safeSet_bad {f : Fd} {n : Nat} {F : Nat → Nat → Int} {x : Int} (h : inB x 1 1000 = false) : safeSet f n F x = fun _ => 0 := by unfold safeSet; rw [h, Bool.and_false]; rfl
set_option maxRecDepth 100000 in
theorem l03Soil_any (f : Fd) (hf : f.Wf) (k : Nat) (hk : k < 100) (b : Nat) (w : World) (B : Blk w b (fcells f) 33) :
    Calls Tryd.prog 47 #[.pointer (some ⟨b, 0, none⟩), .int .i64 k] w fun e w' => e = .returned (.bool (isCell f (k : Int) && f.K k == 0)) ∧ w = w' := by
  have cK := B.cell (fcells_K f k hk)
  have hk1 : (k : Int) < 100 := by omega
  have hKb := hf.K k hk
  have HB := Lib.hid B
  clear B
  cases hc : isCell f (k : Int) with
  | false =>
    rw [Bool.false_and]
    go_enter Tryd.func47, Tryd.ntmps47
    go_wp2_with (go_at_call 20; refine (l01Is_any f k b _ hf.W hf.H HB.out).mono ?_; rintro e w' ⟨rfl, rfl⟩; rw [hc])
    go_ret
    exact ⟨rfl, rfl⟩
  | true =>
    rw [Bool.true_and]
    go_enter Tryd.func47, Tryd.ntmps47
    go_wp2_with (go_at_call 20; refine (l01Is_any f k b _ hf.W hf.H HB.out).mono ?_; rintro e w' ⟨rfl, rfl⟩; rw [hc])
    go_ret
    exact ⟨rfl, rfl⟩
set_option maxRecDepth 100000 in
set_option maxHeartbeats 4000000 in
theorem l03Safe_any (f : Fd) (hf : f.Wf) (n : Nat) (hn : n ≤ 2 ^ 40) (F : Nat → Nat → Int) (hF : ∀ i, i < n → WfT (F i)) (hS : ∀ i, i < n → shapeOk (F i) = true) (x : Int) (b d cap : Nat) (w : World) (B : Blk w b (fcells f) 33) (I : InS w d 0 n ksScarecrow F) :
    Calls Tryd.prog 34 #[.pointer (some ⟨b, 0, none⟩), .slice (some ⟨d, 0, none⟩) n cap, .int .i64 x] w fun e w' => e = .returned (.agg (acells .u64 2 (wantSet f (safeQ f F n x) 100))) ∧ Below w.heap.size w w' := by
  have HB := Lib.hid B
  have HI := Lib.hid I
  have HF := Lib.hid hF
  have HS := Lib.hid hS
  clear B I hF hS
  go_enter Tryd.func34, Tryd.ntmps34
  go_upto_region 2 with (fail)
  rw [zero2]
  obtain ⟨W, hW, M⟩ := open2 w (acells .u64 2 (fun _ => 0)) 35 (acells .u64 2 (fun _ => 0)) 35
  rw [hW]; clear hW
  go_wp2_with fail
  have M0 : Mem w W [⟨w.heap.size, acells .u64 2 (fun _ => 0), 35⟩, ⟨w.heap.size + 1, acells .u64 2 (wantSet f (safeQ f F n x) 0), 35⟩] := M
  clear M
  go_loopw [8] (fun i wr => ∃ k : Nat, k ≤ 100 ∧ i = .int .i64 k ∧ Hid (Mem w wr [⟨w.heap.size, acells .u64 2 (fun _ => 0), 35⟩, ⟨w.heap.size + 1, acells .u64 2 (wantSet f (safeQ f F n x) k), 35⟩])) (fun i _ => 100 - (intOf i).toNat)
  case atStart => exact ⟨0, by omega, rfl, Lib.hid M0⟩
  case round =>
    clear M0
    obtain ⟨k, hk', rfl, hM⟩ := hrel
    by_cases hlt : k < 100
    · cases hq : (isCell f (k : Int) && f.K k == 0) with
      | false =>
        have hno : Hid (wantSet f (safeQ f F n x) (k + 1) = wantSet f (safeQ f F n x) k) := Lib.hid (wantSet_no (by
          cases h1 : isCell f (k : Int) with
          | false => rfl
          | true => rw [h1, Bool.true_and] at hq; rw [safeQ_soil hq]; rfl))
        go_wp2_with (go_at_call 47; refine (l03Soil_any f hf k hlt b _ (HB.out.later hM.out.below)).mono ?_; rintro e w' ⟨rfl, rfl⟩; rw [hq])
        go_roundw
        case rel => exact ⟨k + 1, by omega, by go_num, by rw [hno.out]; exact hM⟩
        case measure => simp [intOf]; omega
      | true =>
        obtain ⟨hc, hkv⟩ : isCell f (k : Int) = true ∧ (f.K k == 0) = true := by simpa using hq
        have hin : 0 ≤ (k : Int) ∧ (k : Int) ≤ 99 := ⟨by omega, by omega⟩
        obtain ⟨v, hv⟩ : ∃ v, fearTo F (k : Int) n = v := ⟨_, rfl⟩
        have HV := Lib.hid hv
        have hsq := safeQ_fear (f := f) (x := x) hkv hv
        clear hv hkv
        by_cases hle : x ≤ v
        · have hyes : Hid (wantSet f (safeQ f F n x) (k + 1) = putC (wantSet f (safeQ f F n x) k) k) := Lib.hid (wantSet_yes hc (by rw [hsq]; exact decide_eq_true hle))
          clear hsq hc
          go_wp2_with (first
            | (go_at_call 47; refine (l03Soil_any f hf k hlt b _ (HB.out.later hM.out.below)).mono ?_; rintro e w' ⟨rfl, rfl⟩; rw [hq])
            | (go_at_call 61; refine (l03Fear_any n hn F HF.out HS.out (k : Int) hin d cap _ (HI.out.later hM.out.below)).mono ?_; rintro e w2 ⟨rfl, hb⟩; rw [HV.out]; have hM2 := Lib.hid (hM.out.call hb); clear hM hb)
            | (go_at_call 46; refine (l01Put_any (wantSet f (safeQ f F n x) k) k hlt _ _ (hM2.out.at 1 rfl)).mono ?_; rintro e w3 ⟨⟨_, rfl⟩, i, vv, hw2, hset⟩; have M4 := Lib.hid (hM2.out.set 1 i vv rfl _ hset).drew; rw [hw2] at M4))
          go_roundw
          case rel => exact ⟨k + 1, by omega, by go_num, by rw [hyes.out]; exact M4⟩
          case measure => simp [intOf]; omega
        · have hno : Hid (wantSet f (safeQ f F n x) (k + 1) = wantSet f (safeQ f F n x) k) := Lib.hid (wantSet_no (by rw [hsq, decide_eq_false hle, Bool.and_false]))
          clear hsq hc
          go_wp2_with (first
            | (go_at_call 47; refine (l03Soil_any f hf k hlt b _ (HB.out.later hM.out.below)).mono ?_; rintro e w' ⟨rfl, rfl⟩; rw [hq])
            | (go_at_call 61; refine (l03Fear_any n hn F HF.out HS.out (k : Int) hin d cap _ (HI.out.later hM.out.below)).mono ?_; rintro e w2 ⟨rfl, hb⟩; rw [HV.out]; have hM2 := Lib.hid (hM.out.call hb); clear hM hb))
          go_roundw
          case rel => exact ⟨k + 1, by omega, by go_num, by rw [hno.out]; exact hM2⟩
          case measure => simp [intOf]; omega
    · obtain rfl : k = 100 := by omega
      go_wp2_with (first
        | (refine wpList_load_part rfl 35 _ rfl (w.heap.size + 1) 0 rfl (acells .u64 2 (wantSet f (safeQ f F n x) 100)) _ (hM.out.at 1 rfl).whole Tryd.underlying35 rfl (by rw [acells_size]; exact sizeC) ?_)
        | (refine wpList_store_row rfl 35 _ _ rfl w.heap.size (acells .u64 2 (wantSet f (safeQ f F n x) 100)) rfl rfl 35 _ (hM.out.at 0 rfl) (by rw [acells_size]; exact sizeC) (by simp only [acells_size]) (acells_one _ _ _) ?_))
      have M2 := hM.out.row 0 rfl (acells .u64 2 (wantSet f (safeQ f F n x) 100))
      exact bodyPost_ret (results_cell_row rfl _ _ w.heap.size 35 _ _ _ rfl (M2.at 0 rfl) Tryd.underlying35 rfl (by rw [acells_size]; exact sizeC)) rfl ⟨rfl, M2.below⟩
set_option maxRecDepth 100000 in
theorem isSoil_any (f : Fd) (hf : f.Wf) (hok : okF f = true) (k : Nat) (hk : k < 100) (w : World) :
    Calls Tryd.prog 59 #[.agg (fcells f), .int .i64 k] w fun e w' => e = .returned (.bool (isCell f (k : Int) && f.K k == 0)) ∧ Below w.heap.size w w' := by
  have hH : f.H ≤ 10 := (okF_size hok).2.2.2
  have hk1 : (k : Int) < 100 := by omega
  have hKb := hf.K k hk
  cases hc : isCell f (k : Int) with
  | false =>
    rw [Bool.false_and]
    go_enter Tryd.func59, Tryd.ntmps59
    go_upto_region 1 with (fail)
    obtain ⟨W, hW, M⟩ := open1 w (fcells f) 33
    rw [hW]; clear hW
    go_wp2_with (first
      | (refine wpList_load_part rfl 33 _ rfl w.heap.size 0 rfl (fcells f) _ (M.at 0 rfl).whole Tryd.underlying33 rfl (by rw [fcells_size]; exact sizeFd) ?_)
      | (go_at_call 74; refine (fieldHas_any f hf hH k (by omega) (by omega) _).mono ?_; rintro e W2 ⟨rfl, hb⟩; rw [hc]; have M2 := M.call hb; clear M hb))
    go_ret
    exact ⟨rfl, M2.below⟩
  | true =>
    rw [Bool.true_and]
    go_enter Tryd.func59, Tryd.ntmps59
    go_upto_region 1 with (fail)
    obtain ⟨W, hW, M⟩ := open1 w (fcells f) 33
    rw [hW]; clear hW
    go_wp2_with (first
      | (refine wpList_load_part rfl 33 _ rfl w.heap.size 0 rfl (fcells f) _ (M.at 0 rfl).whole Tryd.underlying33 rfl (by rw [fcells_size]; exact sizeFd) ?_)
      | (go_at_call 74; refine (fieldHas_any f hf hH k (by omega) (by omega) _).mono ?_; rintro e W2 ⟨rfl, hb⟩; rw [hc]; have M2 := M.call hb; clear M hb; have cK := (M2.at 0 rfl).cell (fcells_K f k hk)))
    go_ret
    exact ⟨rfl, M2.below⟩
theorem load_fear (b off : Nat) (g : FuncId) (caps : Array Value) (w : World) (c : w.cell? ⟨b, off, none⟩ = some (.func (.func g) #[] caps)) : (Instr.loadAt 100 (.pointer (some ⟨b, off, none⟩))).run Tryd.prog w = .ok (.func (.func g) #[] caps) w := by
  simp [go_sem, c]
theorem load_least (b off : Nat) (n : Int) (w : World) (c : w.cell? ⟨b, off, none⟩ = some (.int .i64 n)) : (Instr.loadAt 2 (.pointer (some ⟨b, off, none⟩))).run Tryd.prog w = .ok (.int .i64 n) w := by
  simp [go_sem, c]
/-- What the closure of safe cells looks at. -/
def SafeE (f : Fd) (F : Nat → Nat → Int) (n cap d : Nat) (x : Int) (pb qb rb sb : Nat) (w : World) : Prop :=
  Blk w pb (fcells f) 33 ∧ w.cell? ⟨qb, 0, none⟩ = some (.func (.func 80) #[] #[.pointer (some ⟨sb, 0, none⟩)]) ∧ w.cell? ⟨rb, 0, none⟩ = some (.int .i64 x) ∧ w.cell? ⟨sb, 0, none⟩ = some (.slice (some ⟨d, 0, none⟩) n cap) ∧ InS w d 0 n ksScarecrow F
theorem SafeE.later {f : Fd} {F : Nat → Nat → Int} {n cap d : Nat} {x : Int} {pb qb rb sb : Nat} {w w' : World} (h : SafeE f F n cap d x pb qb rb sb w) (hb : Below w.heap.size w w') : SafeE f F n cap d x pb qb rb sb w' :=
  ⟨h.1.later hb, cell_later h.2.1 hb, cell_later h.2.2.1 hb, cell_later h.2.2.2.1 hb, h.2.2.2.2.later hb⟩
set_option maxRecDepth 100000 in
set_option maxHeartbeats 2000000 in
theorem safe_closure (f : Fd) (hf : f.Wf) (hok : okF f = true) (n : Nat) (hn : n ≤ 2 ^ 40) (F : Nat → Nat → Int) (hF : ∀ i, i < n → WfT (F i)) (hS : ∀ i, i < n → shapeOk (F i) = true) (x : Int) (d cap pb qb rb sb : Nat) (k : Nat) (hc : isCell f (k : Int) = true) (w : World) (E : SafeE f F n cap d x pb qb rb sb w) :
    Calls Tryd.prog 64 #[.int .i64 k, .pointer (some ⟨pb, 0, none⟩), .pointer (some ⟨qb, 0, none⟩), .pointer (some ⟨rb, 0, none⟩)] w fun e w' => e = .returned (.bool (safeQ f F n x k)) ∧ Below w.heap.size w w' := by
  have HE := Lib.hid E
  clear E
  have hin := cell_in hc
  have hk : k < 100 := by omega
  cases hkv : (f.K k == 0) with
  | false =>
    rw [safeQ_soil hkv]
    have hsoil : Hid ((isCell f (k : Int) && f.K k == 0) = false) := Lib.hid (by rw [hkv, Bool.and_false])
    go_enter Tryd.func64, Tryd.ntmps64
    go_upto_region 1 with (fail)
    refine wp_region_rel (DL [dV (.agg (fcells f)), dV (.int .i64 k), dV (.bool false), dV (.bool false), dV undef, dV undef, dV undef, dV undef, dV undef, dV (.bool false), dV (.bool false)]) (fun w' => SafeE f F n cap d x pb qb rb sb w' ∧ Below w.heap.size w w') (by kernel_rfl) (by kernel_rfl) (fun _ _ h hb => ⟨h.1.later hb, h.2.trans (hb.mono h.2.size)⟩)
      (stays_DL (fun d hd => by
        simp only [List.mem_cons, List.mem_nil_iff, or_false] at hd
        rcases hd with rfl | rfl | rfl | rfl | rfl | rfl | rfl | rfl | rfl | rfl | rfl <;> exact stay_V)) ⟨HE.out.later (Below.refl _ _).drew, (Below.refl _ _).drew⟩ ?_
    refine rel_load 33 _ rfl (pb) (0) rfl (fcells f) _ rfl rfl (fun w' hw' => hw'.1.1.whole) Tryd.underlying33 rfl (by rw [fcells_size]; exact sizeFd) (fun _ => ?_)
    simp only [Act.put, List.setIfInBounds_toArray, List.set_cons_zero, List.set_cons_succ]
    refine rel_val _ rfl rfl (fun _ _ => rfl) (fun _ => ?_)
    simp only [Act.put, List.setIfInBounds_toArray, List.set_cons_zero, List.set_cons_succ]
    refine rel_call (.bool false) 59 #[.agg (fcells f), .int .i64 k] rfl rfl rfl rfl (enters_of Tryd.func59 (by kernel_rfl) rfl) (fun w' _ => (isSoil_any f hf hok k hk w').mono (fun e w2 h => ⟨by rw [h.1, hsoil.out], h.2⟩)) (fun _ => ?_)
    simp only [Act.put, List.setIfInBounds_toArray, List.set_cons_zero, List.set_cons_succ]
    refine rel_val _ rfl rfl (fun _ _ => rfl) (fun _ => ?_)
    simp only [Act.put, List.setIfInBounds_toArray, List.set_cons_zero, List.set_cons_succ]
    refine rel_skip rfl ?_
    simp only [Act.put, List.setIfInBounds_toArray, List.set_cons_zero, List.set_cons_succ]
    refine rel_skip rfl ?_
    simp only [Act.put, List.setIfInBounds_toArray, List.set_cons_zero, List.set_cons_succ]
    refine rel_skip rfl ?_
    simp only [Act.put, List.setIfInBounds_toArray, List.set_cons_zero, List.set_cons_succ]
    refine rel_skip rfl ?_
    simp only [Act.put, List.setIfInBounds_toArray, List.set_cons_zero, List.set_cons_succ]
    refine rel_skip rfl ?_
    simp only [Act.put, List.setIfInBounds_toArray, List.set_cons_zero, List.set_cons_succ]
    refine rel_val _ rfl rfl (fun _ _ => rfl) (fun _ => ?_)
    simp only [Act.put, List.setIfInBounds_toArray, List.set_cons_zero, List.set_cons_succ]
    refine rel_val _ rfl rfl (fun _ _ => rfl) (fun _ => ?_)
    simp only [Act.put, List.setIfInBounds_toArray, List.set_cons_zero, List.set_cons_succ]
    refine rel_nil (fun W2 inv => ?_)
    have M2 := inv.cls.2
    clear inv
    go_wp2_with fail
    go_ret
    exact ⟨rfl, M2⟩
  | true =>
    obtain ⟨v, hv⟩ : ∃ v, fearTo F (k : Int) n = v := ⟨_, rfl⟩
    rw [safeQ_fear hkv hv]
    have HV := Lib.hid hv
    have HF := Lib.hid hF
    have HS := Lib.hid hS
    clear hv hF hS
    have hsoil : Hid ((isCell f (k : Int) && f.K k == 0) = true) := Lib.hid (by rw [hkv, hc]; rfl)
    go_enter Tryd.func64, Tryd.ntmps64
    go_upto_region 1 with (fail)
    refine wp_region_rel (DL [dV (.agg (fcells f)), dV (.int .i64 k), dV (.bool true), dV (.bool true), dV (.func (.func 80) #[] #[.pointer (some ⟨sb, 0, none⟩)]), dV (.int .i64 k), dV (.int .i64 v), dV (.int .i64 x), dV (.bool (decide (x ≤ v))), dV (.bool (decide (x ≤ v))), dV (.bool (decide (x ≤ v)))]) (fun w' => SafeE f F n cap d x pb qb rb sb w' ∧ Below w.heap.size w w') (by kernel_rfl) (by kernel_rfl) (fun _ _ h hb => ⟨h.1.later hb, h.2.trans (hb.mono h.2.size)⟩)
      (stays_DL (fun d hd => by
        simp only [List.mem_cons, List.mem_nil_iff, or_false] at hd
        rcases hd with rfl | rfl | rfl | rfl | rfl | rfl | rfl | rfl | rfl | rfl | rfl <;> exact stay_V)) ⟨HE.out.later (Below.refl _ _).drew, (Below.refl _ _).drew⟩ ?_
    refine rel_load 33 _ rfl (pb) (0) rfl (fcells f) _ rfl rfl (fun w' hw' => hw'.1.1.whole) Tryd.underlying33 rfl (by rw [fcells_size]; exact sizeFd) (fun _ => ?_)
    simp only [Act.put, List.setIfInBounds_toArray, List.set_cons_zero, List.set_cons_succ]
    refine rel_val _ rfl rfl (fun _ _ => rfl) (fun _ => ?_)
    simp only [Act.put, List.setIfInBounds_toArray, List.set_cons_zero, List.set_cons_succ]
    refine rel_call (.bool true) 59 #[.agg (fcells f), .int .i64 k] rfl rfl rfl rfl (enters_of Tryd.func59 (by kernel_rfl) rfl) (fun w' _ => (isSoil_any f hf hok k hk w').mono (fun e w2 h => ⟨by rw [h.1, hsoil.out], h.2⟩)) (fun _ => ?_)
    simp only [Act.put, List.setIfInBounds_toArray, List.set_cons_zero, List.set_cons_succ]
    refine rel_val _ rfl rfl (fun _ _ => rfl) (fun _ => ?_)
    simp only [Act.put, List.setIfInBounds_toArray, List.set_cons_zero, List.set_cons_succ]
    refine rel_cell 100 _ rfl (qb) (0) rfl (.func (.func 80) #[] #[.pointer (some ⟨sb, 0, none⟩)]) rfl rfl (fun w' c => load_fear _ _ _ _ w' c) (fun w' hw' => hw'.1.2.1) (fun _ => ?_)
    simp only [Act.put, List.setIfInBounds_toArray, List.set_cons_zero, List.set_cons_succ]
    refine rel_val _ rfl rfl (fun _ _ => rfl) (fun _ => ?_)
    simp only [Act.put, List.setIfInBounds_toArray, List.set_cons_zero, List.set_cons_succ]
    refine rel_callDyn (.int .i64 v) 80 #[.int .i64 k, .pointer (some ⟨sb, 0, none⟩)] rfl rfl rfl rfl rfl (enters_of Tryd.func80 (by kernel_rfl) rfl) (fun w' hw' => (fear1_any n hn F HF.out HS.out (k : Int) hin d cap sb w' hw'.1.2.2.2.1 hw'.1.2.2.2.2).mono (fun e w2 h => ⟨by rw [h.1, HV.out], h.2⟩)) (fun _ => ?_)
    simp only [Act.put, List.setIfInBounds_toArray, List.set_cons_zero, List.set_cons_succ]
    refine rel_cell 2 _ rfl (rb) (0) rfl (.int .i64 x) rfl rfl (fun w' c => load_least _ _ _ w' c) (fun w' hw' => hw'.1.2.2.1) (fun _ => ?_)
    simp only [Act.put, List.setIfInBounds_toArray, List.set_cons_zero, List.set_cons_succ]
    refine rel_val (.bool (decide (x ≤ v))) rfl rfl (fun w' _ => by simp [execOp, Act.eval, go_sem]) (fun _ => ?_)
    simp only [Act.put, List.setIfInBounds_toArray, List.set_cons_zero, List.set_cons_succ]
    refine rel_val _ rfl rfl (fun _ _ => rfl) (fun _ => ?_)
    simp only [Act.put, List.setIfInBounds_toArray, List.set_cons_zero, List.set_cons_succ]
    refine rel_val _ rfl rfl (fun _ _ => rfl) (fun _ => ?_)
    simp only [Act.put, List.setIfInBounds_toArray, List.set_cons_zero, List.set_cons_succ]
    refine rel_nil (fun W2 inv => ?_)
    have M2 := inv.cls.2
    clear inv
    go_wp2_with fail
    go_ret
    exact ⟨rfl, M2⟩
/-- A function value goes into its cell. -/
theorem run_store_fn {P : Program} (w : World) (a : Addr) (m : Mode) (g : Fn) (ts cs : Array Value) : (store a (.func g ts cs) m).run P w = stored P w a (.func g ts cs) m := run_store P w a _ m rfl
attribute [local go_sem] run_store_fn in
set_option maxRecDepth 100000 in
set_option maxHeartbeats 2000000 in
theorem safeCells_any (f : Fd) (hf : f.Wf) (hok : okF f = true) (n : Nat) (hn : n ≤ 2 ^ 40) (F : Nat → Nat → Int) (hF : ∀ i, i < n → WfT (F i)) (hS : ∀ i, i < n → shapeOk (F i) = true) (x : Int) (d cap : Nat) (w : World) (I : InS w d 0 n ksScarecrow F) :
    Calls Tryd.prog 37 #[.agg (fcells f), .slice (some ⟨d, 0, none⟩) n cap, .int .i64 x] w fun e w' => e = .returned (.agg (acells .u64 2 (wantSet f (safeQ f F n x) 100))) ∧ Below w.heap.size w w' := by
  have HI := Lib.hid I
  have HF := Lib.hid hF
  have HS := Lib.hid hS
  clear I hF hS
  obtain ⟨G, hG⟩ : ∃ G, wantSet f (safeQ f F n x) 100 = G := ⟨_, rfl⟩
  rw [hG]
  have HG := Lib.hid hG
  clear hG
  go_enter Tryd.func37, Tryd.ntmps37
  go_upto_region 1 with (fail)
  rw [zero2]
  obtain ⟨W, hW, M⟩ := open3 w (fcells f) 33 #[.int .i64 x] 2 (acells .u64 2 (fun _ => 0)) 35
  rw [hW]; clear hW
  go_upto_region 2 with (go_at_call 63; refine (fearFrom_any n cap d _).mono ?_; rintro e W3 ⟨rfl, rfl⟩)
  have M3 := (M.alloc #[.slice (some ⟨d, 0, none⟩) n cap] 44).alloc #[.func (.func 80) #[] #[.pointer (some ⟨W.heap.size, 0, none⟩)]] 100
  rw [World.size_alloc] at M3
  have M4 : Mem w _ [⟨w.heap.size, fcells f, 33⟩, ⟨w.heap.size + 1, #[.int .i64 x], 2⟩, ⟨w.heap.size + 1 + 1, acells .u64 2 (fun _ => 0), 35⟩, ⟨W.heap.size, #[.slice (some ⟨d, 0, none⟩) n cap], 44⟩, ⟨W.heap.size + 1, #[.func (.func 80) #[] #[.pointer (some ⟨W.heap.size, 0, none⟩)]], 100⟩] := M3
  clear M M3
  generalize World.alloc _ _ = W4 at M4 ⊢
  generalize W.heap.size = sz at M4 ⊢
  have hSE : SafeE f F n cap d x w.heap.size (sz + 1) (w.heap.size + 1) sz W4 := ⟨M4.at 0 rfl, (M4.at 4 rfl).cell (i := 0) rfl, (M4.at 1 rfl).cell (i := 0) rfl, (M4.at 3 rfl).cell (i := 0) rfl, HI.out.later M4.below⟩
  go_wp2_with (first
    | (refine wpList_load_part rfl 33 _ rfl w.heap.size 0 rfl (fcells f) _ (M4.at 0 rfl).whole Tryd.underlying33 rfl (by rw [fcells_size]; exact sizeFd) ?_)
    | (go_at_call 57; refine (cellsWhere_any f hok 64 #[.pointer (some ⟨w.heap.size, 0, none⟩), .pointer (some ⟨sz + 1, 0, none⟩), .pointer (some ⟨w.heap.size + 1, 0, none⟩)] (safeQ f F n x) (SafeE f F n cap d x w.heap.size (sz + 1) (w.heap.size + 1) sz) (fun _ _ h hb => h.later hb) (fun k w' hk h => safe_closure f hf hok n hn F HF.out HS.out x d cap _ _ _ _ k hk w' h) _ hSE (enters_of Tryd.func64 (by kernel_rfl) rfl)).mono ?_; rintro e W5 ⟨rfl, hb⟩; rw [HG.out]; have M5 := M4.call hb; clear M4 hb)
    | (refine wpList_store_row rfl 35 _ _ rfl (w.heap.size + 1 + 1) (acells .u64 2 G) rfl rfl 35 _ (M5.at 2 rfl) (by rw [acells_size]; exact sizeC) (by simp only [acells_size]) (acells_one _ _ _) ?_))
  have M6 := M5.row 2 rfl (acells .u64 2 G)
  exact bodyPost_ret (results_cell_row rfl _ _ (w.heap.size + 1 + 1) 35 _ _ _ rfl (M6.at 2 rfl) Tryd.underlying35 rfl (by rw [acells_size]; exact sizeC)) rfl ⟨rfl, M6.below⟩
set_option maxRecDepth 100000 in
set_option maxHeartbeats 2000000 in
theorem checkSafety_any (f : Fd) (hf : f.Wf) (n : Nat) (hn : n ≤ 2 ^ 40) (F : Nat → Nat → Int) (hF : WfS ksScarecrow n F) (x : Int) (d cap : Nat) (hcap : n ≤ cap) (A : Nat → Addr) (w : World) (I : InS w d 0 n ksScarecrow F) (S0 : Sents w A) :
    Calls Tryd.prog 36 #[.agg (fcells f), .slice (some ⟨d, 0, none⟩) n cap, .int .i64 x, .slice none 0 0] w fun e w' => e = .returned (askErr A (askCode f n F (inB x 1 1000))) ∧ Below w.heap.size w w' := by
  have HI := Lib.hid I
  have S : Hid (Sents w A) := Lib.hid S0
  clear I S0
  have hif := isIfaceErr
  obtain ⟨fine, hfine⟩ : ∃ fine, inB x 1 1000 = fine := ⟨_, rfl⟩
  have hp9 := Lib.hid hfine
  rw [hfine]
  clear hfine
  cases hs : okScares f n F with
  | false =>
    rw [ask_no hs, show askErr A 1 = errVal (A 1) from rfl]
    have hk : Hid (askErr A (askCode f n F (allTo 0 (fun _ => isCell f 0))) = errVal (A 1)) := Lib.hid (by rw [ask_no hs]; rfl)
    go_enter Tryd.func36, Tryd.ntmps36
    go_upto_region 1 with (fail)
    obtain ⟨W, hW, M⟩ := open1 w (fcells f) 33
    rw [hW]; clear hW
    go_wp2_with (first
      | (refine wpList_load_part rfl 33 _ rfl w.heap.size 0 rfl (fcells f) _ (M.at 0 rfl).whole Tryd.underlying33 rfl (by rw [fcells_size]; exact sizeFd) ?_)
      | (go_at_call 62; refine (checkScares_any f hf n hn F hF d cap hcap 0 (by omega) (fun _ => 0) (fun _ h => absurd h (by omega)) none 0 A _ (HI.out.later M.below) (.inl rfl) (S.out.later M.below)).mono ?_; rintro e W2 ⟨rfl, hb⟩; rw [hk.out]; have M2 := M.call hb; clear M hb))
    go_ret
    exact ⟨rfl, M2.below⟩
  | true =>
    have hk : Hid (askErr A (askCode f n F (allTo 0 (fun _ => isCell f 0))) = .nilIface) := Lib.hid (by rw [ask_ok (fine := allTo 0 (fun _ => isCell f 0)) hs rfl]; rfl)
    cases fine with
    | false =>
      rw [ask_bad hs rfl, show askErr A 2 = errVal (A 2) from rfl]
      go_enter Tryd.func36, Tryd.ntmps36
      go_upto_region 1 with (fail)
      obtain ⟨W, hW, M⟩ := open1 w (fcells f) 33
      rw [hW]; clear hW
      go_wp2_with (first
        | (refine wpList_load_part rfl 33 _ rfl w.heap.size 0 rfl (fcells f) _ (M.at 0 rfl).whole Tryd.underlying33 rfl (by rw [fcells_size]; exact sizeFd) ?_)
        | (go_at_call 62; refine (checkScares_any f hf n hn F hF d cap hcap 0 (by omega) (fun _ => 0) (fun _ h => absurd h (by omega)) none 0 A _ (HI.out.later M.below) (.inl rfl) (S.out.later M.below)).mono ?_; rintro e W2 ⟨rfl, hb⟩; rw [hk.out]; have M2 := M.call hb; have hv2 := (S.out.later M2.below).v2; clear M hb)
        | (go_at_call 48; refine (isPower_ok x _).mono ?_; rintro e w3 ⟨rfl, rfl⟩; rw [hp9.out]))
      go_ret
      exact ⟨rfl, M2.below⟩
    | true =>
      rw [ask_ok hs rfl, show askErr A 0 = .nilIface from rfl]
      go_enter Tryd.func36, Tryd.ntmps36
      go_upto_region 1 with (fail)
      obtain ⟨W, hW, M⟩ := open1 w (fcells f) 33
      rw [hW]; clear hW
      go_wp2_with (first
        | (refine wpList_load_part rfl 33 _ rfl w.heap.size 0 rfl (fcells f) _ (M.at 0 rfl).whole Tryd.underlying33 rfl (by rw [fcells_size]; exact sizeFd) ?_)
        | (go_at_call 62; refine (checkScares_any f hf n hn F hF d cap hcap 0 (by omega) (fun _ => 0) (fun _ h => absurd h (by omega)) none 0 A _ (HI.out.later M.below) (.inl rfl) (S.out.later M.below)).mono ?_; rintro e W2 ⟨rfl, hb⟩; rw [hk.out]; have M2 := M.call hb; clear M hb)
        | (go_at_call 48; refine (isPower_ok x _).mono ?_; rintro e w3 ⟨rfl, rfl⟩; rw [hp9.out]))
      go_ret
      exact ⟨rfl, M2.below⟩
end Go.Proofs.YteclngooblafoaaDoor
