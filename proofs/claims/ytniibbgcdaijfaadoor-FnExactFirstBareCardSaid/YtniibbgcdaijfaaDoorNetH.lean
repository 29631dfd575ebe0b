/-
  A drawn region that loads rows and stores them back as they were: the world stays as it is.
  The program on several nets: what they cover, the check of a field and nets.
  The program's check of a field and nets: no targets; with no prices.
-/
import Derived.Test.YtniibbgcdaijfaaDoorRegM
import Derived.BigQuiet
import Derived.Test.YtniibbgcdaijfaaDoorNetG
import Derived.Test.YtniibbgcdaijfaaDoorAppSeq
import Derived.Test.YtniibbgcdaijfaaDoorChkN
import Derived.Test.YtniibbgcdaijfaaDoorCount
import Derived.Shelf.RegionOpen
namespace Go.Proofs.YtniibbgcdaijfaaDoor
section
open Go Go.RowKit

theorem setRow_same {w : World} {g : Nat} {cs : Array Value} {t : TypeId} (h : Blk w g cs t) : w.setRow g cs = w := by
  have e : (w.setRow g cs).heap = w.heap := by
    apply Array.ext_getElem?
    intro i
    by_cases hi : i = g
    · subst hi
      rw [setRow_heap w i cs cs t _ h]; exact h.symm
    · exact setRow_other w g i cs hi
  show { w with heap := (w.setRow g cs).heap } = w
  rw [e]
section
variable {P : Program} {ops : Array Oper} {C : World → Prop} {Q : Act → Prop} {a : Act} {o : Oper} {rest : List Oper}
theorem quiet_row (ty : TypeId) (x : Operand) (ho : o.op = .load ty x) (b : Nat) (hx : a.eval x = .pointer (some ⟨b, 0, none⟩)) (vs : Array Value) (t : TypeId) (d : TypeDesc) (hw : Region.wanted o (yielded ops a.tmps) = true)
    (hc : ∀ w, C w → Blk w b vs t) (hu : P.underlying ty = some d) (hd : d.isRow = true) (hi : (P.info? ty).map (·.size) = some vs.size)
    (h : wpQuiet P ops C Q rest (a.put o.dst (.agg vs))) : wpQuiet P ops C Q (o :: rest) a :=
  BigFrame.wpQuiet_want hw (fun K hK => ⟨.agg vs, fun w hw' => by
    unfold Oper.quietAt execOp
    simp only [ho, hx, Sem.run_bind, run_loadAt_part w b 0 ty vs d (hc w hw').whole hu hd hi, Result.andThen_ok, Sem.run_pure]
    exact ⟨rfl, rfl⟩, hK _ h⟩)
theorem quiet_store (ty : TypeId) (x y : Operand) (ho : o.op = .store ty x y) (b : Nat) (hx : a.eval x = .pointer (some ⟨b, 0, none⟩)) (vs : Array Value) (hy : a.eval y = .agg vs) (t : TypeId) (hw : Region.wanted o (yielded ops a.tmps) = true)
    (hc : ∀ w, C w → Blk w b vs t) (hi : (P.info? ty).map (·.size) = some vs.size) (h1 : vs.all (·.oneCell') = true)
    (h : wpQuiet P ops C Q rest (a.put o.dst undef)) : wpQuiet P ops C Q (o :: rest) a :=
  BigFrame.wpQuiet_want hw (fun K hK => ⟨undef, fun w hw' => by
    unfold Oper.quietAt execOp
    simp only [ho, hx, hy, Instr.storeAt, Instr.sureAddr, Sem.run_bind, Sem.run_pure, Result.andThen_ok, run_storeVar_row w b t ty vs vs (hc w hw') hi rfl h1, setRow_same (hc w hw')]
    exact ⟨rfl, rfl⟩, hK _ h⟩)
end
end
section
open Go Go.RowKit

theorem unionJ (f g : Nat → Int) (hf : N100 f) (hg : N100 g) (w : World) : Calls Tryd.prog 50 #[.agg (acells .u64 2 f), .agg (acells .u64 2 g)] w fun e w' => e = .returned (.agg (acells .u64 2 (joinC .or f g))) ∧ Below w.heap.size w w' := by
  rw [← opC_join (or_N100 hf hg)]; exact implUnionOf f g w
theorem bothJ (f g : Nat → Int) (hf : N100 f) (hg : U64 g) (w : World) : Calls Tryd.prog 31 #[.agg (acells .u64 2 f), .agg (acells .u64 2 g)] w fun e w' => e = .returned (.agg (acells .u64 2 (joinC .and f g))) ∧ Below w.heap.size w w' := by
  rw [← opC_join (and_N100 hf hg)]; exact implBothOf f g w
theorem results_row_row {P : Program} {fn : Func} {p q : Tmp} {ty : TypeId} (h : fn.results = #[.cell p ty, .cell q ty]) (tmps : Array Value) (w : World) (g1 g2 : Nat) (t1 t2 : TypeId) (c1 c2 : Array Value) (d : TypeDesc)
    (hp : tmps.getD p undef = .pointer (some ⟨g1, 0, none⟩)) (hq : tmps.getD q undef = .pointer (some ⟨g2, 0, none⟩)) (h1 : Blk w g1 c1 t1) (h2 : Blk w g2 c2 t2)
    (hu : P.underlying ty = some d) (hd : (match d with | .struct _ | .array _ _ => true | _ => false) = true) (hi1 : (P.info? ty).map (·.size) = some c1.size) (hi2 : (P.info? ty).map (·.size) = some c2.size) :
    (results fn tmps).run P w = .ok (.tuple #[.agg c1, .agg c2]) w := by
  have hp' : tmps[p]?.getD undef = .pointer (some ⟨g1, 0, none⟩) := by simpa using hp
  have hq' : tmps[q]?.getD undef = .pointer (some ⟨g2, 0, none⟩) := by simpa using hq
  simp [results, h, hp', hq', asAddr, Result.andThen, run_loadVar_row w g1 t1 ty c1 (0, 0) d h1 hu hd hi1, run_loadVar_row w g2 t2 ty c2 (0, 0) d h2 hu hd hi2]

set_option maxRecDepth 100000 in
set_option maxHeartbeats 8000000 in
theorem layers_some (n : Nat) (hn : n ≤ 2 ^ 40) (F : Nat → Nat → Int) (hF : ∀ i, i < n → NetFits (F i)) (b o c : Nat) (w : World) (I : InS w b o n ksNet F) :
    Calls Tryd.prog 30 #[.slice (some ⟨b, o, none⟩) n c] w fun e w' => e = .returned (.tuple #[.agg (acells .u64 2 (cov F n)), .agg (acells .u64 2 (twi F n))]) ∧ Below w.heap.size w w' := by
  have HI := Lib.hid I
  have HF := Lib.hid hF
  clear I hF
  go_enter Tryd.func30, Tryd.ntmps30
  go_upto_region 1 with (fail)
  rw [zero2]
  obtain ⟨W, hW, M⟩ := open2 w (acells .u64 2 (fun _ => 0)) 38 (acells .u64 2 (fun _ => 0)) 38
  rw [hW]; clear hW
  have M0 : Hid (Mem w W [⟨w.heap.size, acells .u64 2 (cov F 0), 38⟩, ⟨w.heap.size + 1, acells .u64 2 (twi F 0), 38⟩]) := Lib.hid M
  clear M
  go_wp2_with fail
  go_loopw [9] (fun i wr => ∃ k : Nat, k ≤ n ∧ i = .int .i64 k ∧ Hid (Mem w wr [⟨w.heap.size, acells .u64 2 (cov F k), 38⟩, ⟨w.heap.size + 1, acells .u64 2 (twi F k), 38⟩])) (fun i _ => n - (intOf i).toNat)
  case atStart => exact ⟨0, by omega, rfl, M0⟩
  case round =>
    clear M0
    obtain ⟨k, hk, rfl, hM⟩ := hrel
    by_cases hlt : k < n
    · have hr : wr.rangeAt b (o + k * 4) (#[.int .i8 (F k 0), .int .i8 (F k 1), .int .i8 (F k 2), .int .i8 (F k 3)] : Array Value).toList := HI.out.elem (ks := ksNet) (by decide) hM.out.below hlt
      have hfit := HF.out k hlt
      have hcov : Hid (cov F (k + 1) = joinC .or (cov F k) (undA (F k))) := Lib.hid rfl
      have htwi : Hid (twi F (k + 1) = joinC .or (twi F k) (joinC .and (cov F k) (undA (F k)))) := Lib.hid rfl
      have hcN := Lib.hid (cov_N100 F k)
      have htN := Lib.hid (twi_N100 F k)
      have huN := Lib.hid (undA_N100 (F k))
      go_upto_region 4 with (refine wpList_load_part rfl 56 _ rfl b (o + k * 4) rfl #[.int .i8 (F k 0), .int .i8 (F k 1), .int .i8 (F k 2), .int .i8 (F k 3)] _ hr Tryd.underlying56 rfl (by kernel_rfl) ?_)
      clear hr
      have M4 := hM.out.alloc #[.int .i8 (F k 0), .int .i8 (F k 1), .int .i8 (F k 2), .int .i8 (F k 3)] 56
      obtain ⟨nb, hnb⟩ : ∃ nb, wr.heap.size = nb := ⟨_, rfl⟩
      rw [hnb] at M4 ⊢
      generalize wr.alloc (.cells #[.int .i8 (F k 0), .int .i8 (F k 1), .int .i8 (F k 2), .int .i8 (F k 3)] 56) = W4 at M4 ⊢
      go_upto_region 5 with (first
        | (refine wpList_load_part rfl 56 _ rfl nb 0 rfl #[.int .i8 (F k 0), .int .i8 (F k 1), .int .i8 (F k 2), .int .i8 (F k 3)] _ (M4.at 2 rfl).whole Tryd.underlying56 rfl (by kernel_rfl) ?_)
        | (go_at_call 49; refine (netCells_any (F k) hfit _).mono ?_; rintro e W5 ⟨rfl, hb5⟩; have M5 := M4.call hb5; have M6 := M5.alloc #[.int .u64 0, .int .u64 0] 38)
        | (refine wpList_store_row rfl 38 _ _ rfl W5.heap.size (acells .u64 2 (undA (F k))) rfl rfl 38 _ (M6.at 3 rfl) (by rw [acells_size]; exact sizeC) (by rw [acells_size]; rfl) (acells_one _ _ _) ?_))
      have M7 := M6.row 3 rfl (acells .u64 2 (undA (F k)))
      obtain ⟨pb, hpb⟩ : ∃ pb, W5.heap.size = pb := ⟨_, rfl⟩
      rw [hpb] at M7 ⊢
      generalize World.setRow _ _ _ = W7 at M7 ⊢
      have M8 : Mem w W7 [⟨w.heap.size, acells .u64 2 (cov F k), 38⟩, ⟨w.heap.size + 1, acells .u64 2 (twi F k), 38⟩, ⟨pb, acells .u64 2 (undA (F k)), 38⟩] := ⟨M7.below, (fun i e h => by
        match i, h with
        | 0, h => exact M7.blk 0 e h
        | 1, h => exact M7.blk 1 e h
        | 2, h => exact M7.blk 3 e h), (fun i j e e' h h' hij => by
        match i, j, h, h', hij with
        | 0, 0, _, _, hij => exact absurd rfl hij
        | 1, 1, _, _, hij => exact absurd rfl hij
        | 2, 2, _, _, hij => exact absurd rfl hij
        | 0, 1, h, h', _ => exact M7.apart 0 1 e e' h h' (by decide)
        | 1, 0, h, h', _ => exact M7.apart 1 0 e e' h h' (by decide)
        | 0, 2, h, h', _ => exact M7.apart 0 3 e e' h h' (by decide)
        | 2, 0, h, h', _ => exact M7.apart 3 0 e e' h h' (by decide)
        | 1, 2, h, h', _ => exact M7.apart 1 3 e e' h h' (by decide)
        | 2, 1, h, h', _ => exact M7.apart 3 1 e e' h h' (by decide))⟩
      clear M4 M5 M6 M7 hb5 hM
      refine wp_region_rel_tail 5 (DL [dV (.agg (acells .u64 2 (twi F k))), dV (.agg (acells .u64 2 (cov F k))), dV (.agg (acells .u64 2 (undA (F k)))), dV (.agg (acells .u64 2 (joinC .and (cov F k) (undA (F k))))), dV (.agg (acells .u64 2 (joinC .or (twi F k) (joinC .and (cov F k) (undA (F k))))))]) (fun w' => Mem w w' [⟨w.heap.size, acells .u64 2 (cov F k), 38⟩, ⟨w.heap.size + 1, acells .u64 2 (twi F k), 38⟩, ⟨pb, acells .u64 2 (undA (F k)), 38⟩]) (by kernel_rfl) (by kernel_rfl) grows_mem
        (stays_DL (fun d hd => by
          simp only [List.mem_cons, List.mem_nil_iff, or_false] at hd
          rcases hd with rfl | rfl | rfl | rfl | rfl <;> exact stay_V)) M8.drew ?_
      refine rel_load 38 _ rfl (w.heap.size + 1) 0 rfl (acells .u64 2 (twi F k)) _ rfl rfl (fun w' hw' => (hw'.at 1 rfl).whole) Tryd.underlying38 rfl (by rw [acells_size]; exact sizeC) (fun _ => ?_)
      simp only [Act.put, List.setIfInBounds_toArray, List.set_cons_zero, List.set_cons_succ]
      refine rel_load 38 _ rfl w.heap.size 0 rfl (acells .u64 2 (cov F k)) _ rfl rfl (fun w' hw' => (hw'.at 0 rfl).whole) Tryd.underlying38 rfl (by rw [acells_size]; exact sizeC) (fun _ => ?_)
      simp only [Act.put, List.setIfInBounds_toArray, List.set_cons_zero, List.set_cons_succ]
      refine rel_load 38 _ rfl pb 0 rfl (acells .u64 2 (undA (F k))) _ rfl rfl (fun w' hw' => (hw'.at 2 rfl).whole) Tryd.underlying38 rfl (by rw [acells_size]; exact sizeC) (fun _ => ?_)
      simp only [Act.put, List.setIfInBounds_toArray, List.set_cons_zero, List.set_cons_succ]
      refine rel_call (.agg (acells .u64 2 (joinC .and (cov F k) (undA (F k))))) 31 #[.agg (acells .u64 2 (cov F k)), .agg (acells .u64 2 (undA (F k)))] rfl rfl rfl rfl (enters_of Tryd.func31 (by kernel_rfl) rfl) (fun w' _ => bothJ _ _ hcN.out huN.out.1 w') (fun _ => ?_)
      simp only [Act.put, List.setIfInBounds_toArray, List.set_cons_zero, List.set_cons_succ]
      refine rel_call (.agg (acells .u64 2 (joinC .or (twi F k) (joinC .and (cov F k) (undA (F k)))))) 50 #[.agg (acells .u64 2 (twi F k)), .agg (acells .u64 2 (joinC .and (cov F k) (undA (F k))))] rfl rfl rfl rfl (enters_of Tryd.func50 (by kernel_rfl) rfl) (fun w' _ => unionJ _ _ htN.out (and_N100 hcN.out huN.out.1) w') (fun _ => ?_)
      simp only [Act.put, List.setIfInBounds_toArray, List.set_cons_zero, List.set_cons_succ]
      refine rel_nil (fun W8 inv => ?_)
      have M9 := inv.cls
      clear inv M8
      change wpList _ _ _ (_ :: []) _ _
      refine wpList_store_row rfl 38 _ _ rfl (w.heap.size + 1) (acells .u64 2 (joinC .or (twi F k) (joinC .and (cov F k) (undA (F k))))) rfl rfl 38 _ (M9.at 1 rfl) (by rw [acells_size]; exact sizeC) (by simp only [acells_size]) (acells_one _ _ _) ?_
      have M10 := M9.row 1 rfl (acells .u64 2 (joinC .or (twi F k) (joinC .and (cov F k) (undA (F k)))))
      clear M9
      generalize World.setRow _ _ _ = W9 at M10 ⊢
      go_wp2_with (first
        | (go_at_call 50; refine (unionJ _ _ hcN.out huN.out _).mono ?_; rintro e W10 ⟨rfl, hb⟩; have M11 := M10.call hb; clear M10; go_wp2_with (refine wpList_store_row rfl 38 _ _ rfl w.heap.size (acells .u64 2 (joinC .or (cov F k) (undA (F k)))) rfl rfl 38 _ (M11.at 0 rfl) (by rw [acells_size]; exact sizeC) (by simp only [acells_size]) (acells_one _ _ _) ?_))
        | (refine wpList_load_part rfl 38 _ rfl w.heap.size 0 rfl (acells .u64 2 (cov F k)) _ (M10.at 0 rfl).whole Tryd.underlying38 rfl (by rw [acells_size]; exact sizeC) ?_)
        | (refine wpList_load_part rfl 38 _ rfl pb 0 rfl (acells .u64 2 (undA (F k))) _ (M10.at 2 rfl).whole Tryd.underlying38 rfl (by rw [acells_size]; exact sizeC) ?_))
      have M12 := M11.row 0 rfl (acells .u64 2 (joinC .or (cov F k) (undA (F k))))
      generalize World.setRow _ _ _ = W11 at M12 ⊢
      have M13 : Mem w W11 [⟨w.heap.size, acells .u64 2 (joinC .or (cov F k) (undA (F k))), 38⟩, ⟨w.heap.size + 1, acells .u64 2 (joinC .or (twi F k) (joinC .and (cov F k) (undA (F k)))), 38⟩] := ⟨M12.below, (fun i e h => by
        match i, h with
        | 0, h => exact M12.blk 0 e h
        | 1, h => exact M12.blk 1 e h), (fun i j e e' h h' hij => by
        match i, j, h, h', hij with
        | 0, 0, _, _, hij => exact absurd rfl hij
        | 1, 1, _, _, hij => exact absurd rfl hij
        | 0, 1, h, h', _ => exact M12.apart 0 1 e e' h h' (by decide)
        | 1, 0, h, h', _ => exact M12.apart 1 0 e e' h h' (by decide))⟩
      go_roundw
      case rel => exact ⟨k + 1, by omega, by go_num, by rw [hcov.out, htwi.out]; exact Lib.hid M13⟩
      case measure => simp [intOf]; omega
    · obtain rfl : k = n := by omega
      have M9 := hM.out
      go_upto_region 8 with (fail)
      refine wp_region_quiet (C := fun w' => Mem w w' [⟨w.heap.size, acells .u64 2 (cov F k), 38⟩, ⟨w.heap.size + 1, acells .u64 2 (twi F k), 38⟩]) (by kernel_rfl) (by kernel_rfl) M9.drew ?_
      refine quiet_row 38 _ rfl w.heap.size rfl (acells .u64 2 (cov F k)) 38 _ rfl (fun w' hw' => hw'.at 0 rfl) Tryd.underlying38 rfl (by rw [acells_size]; exact sizeC) ?_
      simp only [Act.put, List.setIfInBounds_toArray, List.set_cons_zero, List.set_cons_succ]
      refine quiet_row 38 _ rfl (w.heap.size + 1) rfl (acells .u64 2 (twi F k)) 38 _ rfl (fun w' hw' => hw'.at 1 rfl) Tryd.underlying38 rfl (by rw [acells_size]; exact sizeC) ?_
      simp only [Act.put, List.setIfInBounds_toArray, List.set_cons_zero, List.set_cons_succ]
      refine quiet_store 38 _ _ rfl w.heap.size rfl (acells .u64 2 (cov F k)) rfl 38 rfl (fun w' hw' => hw'.at 0 rfl) (by rw [acells_size]; exact sizeC) (acells_one _ _ _) ?_
      refine quiet_store 38 _ _ rfl (w.heap.size + 1) rfl (acells .u64 2 (twi F k)) rfl 38 rfl (fun w' hw' => hw'.at 1 rfl) (by rw [acells_size]; exact sizeC) (acells_one _ _ _) ?_
      refine wpQuiet_nil (fun W8 M12 => ?_)
      go_wp2_with fail
      exact bodyPost_ret (results_row_row rfl _ _ w.heap.size (w.heap.size + 1) 38 38 _ _ _ rfl rfl (M12.at 0 rfl) (M12.at 1 rfl) Tryd.underlying38 rfl (by rw [acells_size]; exact sizeC) (by rw [acells_size]; exact sizeC)) rfl ⟨rfl, M12.below⟩
end
section
open Go Go.RowKit

def netErr (A : Nat → Addr) (code : Int) : Value := if code = 0 then .nilIface else errVal (A code.toNat)
theorem netErr_0 (A : Nat → Addr) : netErr A 0 = .nilIface := rfl
theorem netErr_1 (A : Nat → Addr) : netErr A 1 = errVal (A 1) := rfl
theorem netErr_3 (A : Nat → Addr) : netErr A 3 = errVal (A 3) := rfl
theorem hasC_none (j : Nat) (hj : j < 100) : hasC (fun _ => 0) (j : Int) = false := hasC_zero j hj
theorem hlist_zero : ∀ n, n ≤ 100 → hlist (fun _ => 0) n = []
  | 0, _ => rfl
  | n + 1, hn => by rw [hlist_miss (hasC_none n (by omega)), hlist_zero n (by omega)]
theorem listOf_zero (w : World) : Calls Tryd.prog 41 #[.agg (acells .u64 2 (fun _ => 0))] w fun e w' => e = .returned (.slice none 0 0) ∧ Below w.heap.size w w' :=
  (implListOf (fun _ => 0) w).mono (fun e w' h => by
    obtain ⟨v, rfl, _, hv, hb⟩ := h
    rw [hv.2 (hlist_zero 100 (Nat.le_refl _))]
    exact ⟨rfl, hb⟩)
theorem countCells_zero (w : World) : Calls Tryd.prog 39 #[.agg (acells .u64 2 (fun _ => 0))] w fun e w' => e = .returned (.int .i64 0) ∧ Below w.heap.size w w' :=
  (countCells_any (fun _ => 0) (fun _ _ => lit_word (by omega)) w).mono (fun e w' h => by
    obtain ⟨rfl, hb⟩ := h
    rw [hlist_zero 100 (Nat.le_refl _)]
    exact ⟨rfl, hb⟩)
set_option maxRecDepth 100000 in
set_option maxHeartbeats 8000000 in
theorem checkNetting0 (f : Fd) (hf : f.Wf) (n : Nat) (hn : n ≤ 2 ^ 40) (F : Nat → Nat → Int) (hF : ∀ i, i < n → WfN (F i)) (b o c : Nat) (A : Nat → Addr) (w : World) (I : InS w b o n ksNet F) (S0 : Sents w A) :
    Calls Tryd.prog 23 #[.agg (fcells f), .slice (some ⟨b, o, none⟩) n c, .agg (acells .u64 2 (fun _ => 0)), .slice none 0 0] w fun e w' => e = .returned (netErr A (netsCode f n F)) ∧ Below w.heap.size w w' := by
  have HI := Lib.hid I
  have S : Hid (Sents w A) := Lib.hid S0
  clear I S0
  have hif := isIfaceErr
  cases hok : okF f with
  | false =>
    rw [code_bad hok, netErr_1]
    go_enter Tryd.func23, Tryd.ntmps23
    go_upto_region 1 with (fail)
    obtain ⟨W, hW, M⟩ := open2 w (fcells f) 34 (acells .u64 2 (fun _ => 0)) 38
    rw [hW]; clear hW
    go_wp2_with (first | (go_at_call 36; refine (validField_any f hf _).mono ?_; rintro e W2 ⟨rfl, hb⟩; rw [hok]; have M2 := M.call hb; have hv1 := (S.out.later M2.below).v1; go_wp2_with fail) | (refine wpList_load_part rfl 34 _ rfl w.heap.size 0 rfl (fcells f) _ (M.at 0 rfl).whole Tryd.underlying34 rfl (by rw [fcells_size]; exact sizeFd) ?_))
    go_ret
    exact ⟨rfl, M2.below⟩
  | true =>
    cases hns : netsOk f n F with
    | false =>
      rw [code_net hns, netErr_1]
      go_enter Tryd.func23, Tryd.ntmps23
      go_upto_region 1 with (fail)
      obtain ⟨W, hW, M⟩ := open2 w (fcells f) 34 (acells .u64 2 (fun _ => 0)) 38
      rw [hW]; clear hW
      go_wp2_with (first | (go_at_call 36; refine (validField_any f hf _).mono ?_; rintro e W2 ⟨rfl, hb⟩; rw [hok]; have M2 := M.call hb; go_wp2_with (first | (go_at_call 37; refine (validNets_some f hf hok n hn F hF b o c _ (HI.out.later M2.below)).mono ?_; rintro e W3 ⟨rfl, hb3⟩; rw [hns]; have M3 := M2.call hb3; clear M2; have hv1 := (S.out.later M3.below).v1; go_wp2_with fail) | (refine wpList_load_wanted rfl 34 _ rfl w.heap.size 0 rfl (fcells f) _ (M2.at 0 rfl).whole Tryd.underlying34 rfl (by rw [fcells_size]; exact sizeFd) ?_))) | (refine wpList_load_part rfl 34 _ rfl w.heap.size 0 rfl (fcells f) _ (M.at 0 rfl).whole Tryd.underlying34 rfl (by rw [fcells_size]; exact sizeFd) ?_))
      go_ret
      exact ⟨rfl, M3.below⟩
    | true =>
      by_cases h20 : 20 < n
      · rw [code_many hok hns h20, netErr_3]
        go_enter Tryd.func23, Tryd.ntmps23
        go_upto_region 1 with (fail)
        obtain ⟨W, hW, M⟩ := open2 w (fcells f) 34 (acells .u64 2 (fun _ => 0)) 38
        rw [hW]; clear hW
        go_upto_region 4 with (first | (go_at_call 36; refine (validField_any f hf _).mono ?_; rintro e W2 ⟨rfl, hb⟩; rw [hok]; have M2 := M.call hb; go_wp2_with (first | (go_at_call 37; refine (validNets_some f hf hok n hn F hF b o c _ (HI.out.later M2.below)).mono ?_; rintro e W3 ⟨rfl, hb3⟩; rw [hns]; have M3 := M2.call hb3; clear M2) | (refine wpList_load_wanted rfl 34 _ rfl w.heap.size 0 rfl (fcells f) _ (M2.at 0 rfl).whole Tryd.underlying34 rfl (by rw [fcells_size]; exact sizeFd) ?_))) | (refine wpList_load_part rfl 34 _ rfl w.heap.size 0 rfl (fcells f) _ (M.at 0 rfl).whole Tryd.underlying34 rfl (by rw [fcells_size]; exact sizeFd) ?_))
        have hv3 := (S.out.later M3.below).v3
        refine wp_loop_rounds 1 ?_
        rw [rounds_succ]
        go_wp2_with fail
        go_ret
        exact ⟨rfl, M3.below⟩
      · rw [code_ok hok hns h20, netErr_0]
        go_enter Tryd.func23, Tryd.ntmps23
        go_upto_region 1 with (fail)
        obtain ⟨W, hW, M⟩ := open2 w (fcells f) 34 (acells .u64 2 (fun _ => 0)) 38
        rw [hW]; clear hW
        go_upto_region 4 with (first | (go_at_call 36; refine (validField_any f hf _).mono ?_; rintro e W2 ⟨rfl, hb⟩; rw [hok]; have M2 := M.call hb; go_wp2_with (first | (go_at_call 37; refine (validNets_some f hf hok n hn F hF b o c _ (HI.out.later M2.below)).mono ?_; rintro e W3 ⟨rfl, hb3⟩; rw [hns]; have M3 := M2.call hb3; clear M2) | (refine wpList_load_wanted rfl 34 _ rfl w.heap.size 0 rfl (fcells f) _ (M2.at 0 rfl).whole Tryd.underlying34 rfl (by rw [fcells_size]; exact sizeFd) ?_))) | (refine wpList_load_part rfl 34 _ rfl w.heap.size 0 rfl (fcells f) _ (M.at 0 rfl).whole Tryd.underlying34 rfl (by rw [fcells_size]; exact sizeFd) ?_))
        refine wp_loop_rounds 1 ?_
        rw [rounds_succ]
        have hd : decide ((20 : Int) < (n : Int)) = false := decide_eq_false (by omega)
        have t0 := (M3.at 1 rfl).cell (acells_get _ _ _ 0 (by omega))
        have t1 := (M3.at 1 rfl).cell (acells_get _ _ _ 1 (by omega))
        go_upto_region 11 with (first
          | (go_at_call 39; refine (countCells_zero _).mono ?_; rintro e W7 ⟨rfl, hb7⟩; have M7 := M3.call hb7; clear M3 t0 t1; go_wp2_with fail)
          | (refine wpList_load_wanted rfl 38 _ rfl (w.heap.size + 1) 0 rfl (acells .u64 2 (fun _ => 0)) _ (M3.at 1 rfl).whole Tryd.underlying38 rfl (by rw [acells_size]; exact sizeC) ?_))
        refine wp_region_rel (DL [dV (.agg (fcells f)), dV (.agg (acells .u64 2 (fun _ => 0))), dV (.slice none 0 0), dV .nilIface, dV .nilIface]) (fun w' => Mem w w' [⟨w.heap.size, fcells f, 34⟩, ⟨w.heap.size + 1, acells .u64 2 (fun _ => 0), 38⟩]) (by kernel_rfl) (by kernel_rfl) grows_mem
          (stays_DL (fun d hd => by
            simp only [List.mem_cons, List.mem_nil_iff, or_false] at hd
            rcases hd with rfl | rfl | rfl | rfl | rfl <;> exact stay_V)) M7.drew ?_
        refine rel_load 34 _ rfl w.heap.size 0 rfl (fcells f) _ rfl rfl (fun w' hw' => (hw'.at 0 rfl).whole) Tryd.underlying34 rfl (by rw [fcells_size]; exact sizeFd) (fun _ => ?_)
        simp only [Act.put, List.setIfInBounds_toArray, List.set_cons_zero, List.set_cons_succ]
        refine rel_load 38 _ rfl (w.heap.size + 1) 0 rfl (acells .u64 2 (fun _ => 0)) _ rfl rfl (fun w' hw' => (hw'.at 1 rfl).whole) Tryd.underlying38 rfl (by rw [acells_size]; exact sizeC) (fun _ => ?_)
        simp only [Act.put, List.setIfInBounds_toArray, List.set_cons_zero, List.set_cons_succ]
        refine rel_call (.slice none 0 0) 41 #[.agg (acells .u64 2 (fun _ => 0))] rfl rfl rfl rfl (enters_of Tryd.func41 (by kernel_rfl) rfl) (fun w' _ => listOf_zero w') (fun _ => ?_)
        simp only [Act.put, List.setIfInBounds_toArray, List.set_cons_zero, List.set_cons_succ]
        refine rel_call .nilIface 40 #[.agg (fcells f), .slice none 0 0] rfl rfl rfl rfl (enters_of Tryd.func40 (by kernel_rfl) rfl) (fun w' hw' => checkCells_nil f hf hok A none 0 w' (S.out.later hw'.below)) (fun _ => ?_)
        simp only [Act.put, List.setIfInBounds_toArray, List.set_cons_zero, List.set_cons_succ]
        refine rel_val .nilIface rfl rfl (fun _ _ => rfl) (fun _ => ?_)
        simp only [Act.put, List.setIfInBounds_toArray, List.set_cons_zero, List.set_cons_succ]
        refine rel_nil (fun w' inv => ?_)
        have M8 := inv.cls
        clear inv
        go_wp2_with fail
        go_ret
        exact ⟨rfl, M8.below⟩
end
end Go.Proofs.YtniibbgcdaijfaaDoor
