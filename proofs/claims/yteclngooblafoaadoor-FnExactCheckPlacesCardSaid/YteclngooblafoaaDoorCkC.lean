/-
  What is covered from a list of numbers: the program's.
-/
import Derived.Test.YteclngooblafoaaDoorCvR
import Derived.Test.YteclngooblafoaaDoorCkP
namespace Go.Proofs.YteclngooblafoaaDoor
open Go Go.RowKit Go.Stop Go.Extern.Stop

theorem unionK (f g : Nat → Int) (hf : N100 f) (hg : N100 g) (w : World) : Calls Tryd.prog 53 #[.agg (acells .u64 2 f), .agg (acells .u64 2 g)] w fun e w' => e = .returned (.agg (acells .u64 2 (joinC .or f g))) ∧ Below w.heap.size w w' := by
  rw [← opC_join (or_N100 hf hg)]; exact implUnionOf f g w
theorem coverFrom_plc (f : Fd) (hf : f.Wf) (hok : okF f = true) (x y : Int) (hx0 : 1 ≤ x ∧ x ≤ 1000) (A : Nat → Addr) (z : Int) (hz : plcB f z = true) (w : World) (S0 : Sents w A) :
    Calls Tryd.prog 54 #[.agg (fcells f), .int .i64 z, .int .i64 x, .int .i64 y] w fun e w' => e = .returned (.agg (acells .u64 2 (cvZ f x y z))) ∧ Below w.heap.size w w' := by
  obtain ⟨p, hp, rfl, hc, hK⟩ := plc_cell hz
  unfold cvZ
  rw [Int.toNat_natCast]
  exact coverFrom_any f hf hok p hp hc hK x y hx0 A w S0
theorem coverFrom_non (f : Fd) (hf : f.Wf) (hok : okF f = true) (x y : Int) (A : Nat → Addr) (z : Int) (hz0 : -9223372036854775808 ≤ z ∧ z ≤ 9223372036854775807) (hz : plcB f z = false) :
    ∃ a, ∀ w, Sents w A → Calls Tryd.prog 54 #[.agg (fcells f), .int .i64 z, .int .i64 x, .int .i64 y] w fun e w' => e = .panicked [{ v := plcErr a, recovered := false }] ∧ Below w.heap.size w w' := by
  have he : ∃ a, placeErr A f z = errVal a := by
    unfold placeErr
    unfold plcB at hz
    cases hc : isCell f z with
    | false => exact ⟨A 2, rfl⟩
    | true =>
      rw [hc, Bool.true_and] at hz
      have hK : f.K z.toNat = 3 := by simpa using hz
      exact ⟨A 4, by rw [if_pos rfl, if_pos hK]⟩
  obtain ⟨a, ha⟩ := he
  exact ⟨a, fun w S => coverFrom_bad f hf hok z hz0 x y A a ha w S⟩
def CaP (f : Fd) (CS : Int → Nat → Int) (m : Nat) (g : Nat → Int) (w : World) (e : Ending) (w' : World) : Prop :=
  ∃ G ev, e = .returned (.tuple #[.agg (acells .u64 2 G), ev]) ∧ ((allTo m (fun i => plcB f (g i)) = true ∧ G = alS CS g m ∧ ev = .nilIface) ∨ (allTo m (fun i => plcB f (g i)) = false ∧ ∃ a, ev = errVal a)) ∧ Below w.heap.size w w'
set_option maxRecDepth 100000 in
set_option maxHeartbeats 8000000 in
theorem coverOfAll_list (f : Fd) (hf : f.Wf) (hok : okF f = true) (x y : Int) (hx0 : 1 ≤ x ∧ x ≤ 1000) (m : Nat) (hm : m ≤ 2 ^ 40) (g : Nat → Int) (hg0 : ∀ i, i < m → -9223372036854775808 ≤ g i ∧ g i ≤ 9223372036854775807) (b c : Nat) (A : Nat → Addr) (w : World) (I : InI w b 0 m g) (S0 : Sents w A) :
    Calls Tryd.prog 29 #[.agg (fcells f), .int .i64 x, .int .i64 y, .slice (some ⟨b, 0, none⟩) m c] w (CaP f (cvZ f x y) m g w) := by
  have S : Hid (Sents w A) := Lib.hid S0
  have HI := Lib.hid I
  have HG0 := Lib.hid hg0
  clear S0 I hg0
  have hmf : ∀ (fn : Fn) (first cap : Array Value) (w : World), (Instr.makeFunc fn first cap).run Tryd.prog w = .ok (.func fn first cap) w := fun _ _ _ _ => rfl
  have HCF := Lib.hid (fun z hz w S => coverFrom_plc f hf hok x y hx0 A z hz w S)
  have HCB := Lib.hid (fun z hz0 hz => coverFrom_non f hf hok x y A z hz0 hz)
  have HN : Hid (∀ c, N100 (cvZ f x y c)) := Lib.hid (cvZ_N100 f x y)
  obtain ⟨CS, hCS⟩ : ∃ CS, cvZ f x y = CS := ⟨_, rfl⟩
  rw [hCS] at HCF HN ⊢
  clear hCS hok hx0
  go_enter_defers Tryd.func29, Tryd.ntmps29
  go_upto_region 1 with (fail)
  rw [zero2]
  obtain ⟨W, hW, M⟩ := open3 w (fcells f) 33 (acells .u64 2 (fun _ => 0)) 35 #[.nilIface] 61
  rw [hW]; clear hW
  go_upto_region 3 with (fail)
  (try rw [zero2])
  have M0 := M.alloc (acells .u64 2 (fun _ => 0)) 35
  obtain ⟨kb, hkb⟩ : ∃ kb, kb = W.heap.size := ⟨_, rfl⟩
  have M2 : Mem w (W.alloc (Obj.cells (acells .u64 2 (fun _ => 0)) 35)) [⟨w.heap.size, fcells f, 33⟩, ⟨w.heap.size + 1, acells .u64 2 (alS CS g 0), 35⟩, ⟨w.heap.size + 1 + 1, #[.nilIface], 61⟩, ⟨kb, acells .u64 2 (knS g 0), 35⟩] := by rw [hkb]; exact M0
  generalize W.alloc _ = W2 at M2 ⊢
  rw [← hkb]
  clear hkb M0 M
  have HM := Lib.hid M2
  clear M2
  go_wp2_with fail
  go_loopw [12, 16] (fun _ i wr => ∃ k : Nat, k ≤ m ∧ i = .int .i64 k ∧ Hid (∀ j, j < k → plcB f (g j) = true) ∧ Hid (Mem w wr [⟨w.heap.size, fcells f, 33⟩, ⟨w.heap.size + 1, acells .u64 2 (alS CS g k), 35⟩, ⟨w.heap.size + 1 + 1, #[.nilIface], 61⟩, ⟨kb, acells .u64 2 (knS g k), 35⟩])) (fun _ i _ => m - (intOf i).toNat)
  case atStart => exact ⟨0, by omega, rfl, Lib.hid (fun j hj => absurd hj (by omega)), HM⟩
  case round =>
    clear HM
    obtain ⟨k, hk, rfl, hall, hM⟩ := hrel
    by_cases hlt : k < m
    · have cG := (HI.out.later hM.out.below) k hlt
      rw [Nat.zero_add] at cG
      have hgb := Lib.hid (HG0.out k hlt)
      have hky := Lib.hid (@knS_yes g k)
      have hkn := Lib.hid (@knS_no g k)
      have hay := Lib.hid (@alS_yes CS g k)
      have han := Lib.hid (@alS_no CS g k)
      have HNA : Hid (N100 (alS CS g k)) := Lib.hid (alS_N100 HN.out g k)
      have hpl : Hid (∀ z, g k = z → plcB f z = false → allTo m (fun i => plcB f (g i)) = false ∧ hasC (knS g k) z = false) := Lib.hid (fun z e h => ⟨allTo_false hlt (by show plcB f (g k) = false; rw [e]; exact h), knS_none hall.out h⟩)
      have hup : Hid (∀ z, g k = z → plcB f z = true → ∀ j, j < k + 1 → plcB f (g j) = true) := Lib.hid (fun z e h j hj => by
        by_cases e2 : j = k
        · subst e2; rw [e]; exact h
        · exact hall.out j (by omega))
      have hkl : Hid (∀ z, g k = z → hasC (knS g k) z = true → plcB f z = true) := Lib.hid (fun z e h => by
        cases h9 : plcB f z with
        | true => rfl
        | false => rw [knS_none hall.out h9] at h; cases h)
      obtain ⟨z, hz⟩ : ∃ z, g k = z := ⟨_, rfl⟩
      have HZ := Lib.hid hz
      rw [hz] at cG hgb hky hkn hay han
      obtain ⟨gk, hgk⟩ : ∃ gk, knS g k = gk := ⟨_, rfl⟩
      obtain ⟨ga, hga⟩ : ∃ ga, alS CS g k = ga := ⟨_, rfl⟩
      rw [hgk] at hM hky hkn hay han hpl hkl
      rw [hga] at hM hay han HNA
      clear hz hgk hga
      cases hq : hasC gk z with
      | true =>
        have e1 := Lib.hid (hky.out hq)
        have e2 := Lib.hid (hay.out hq)
        have e3 := Lib.hid (hup.out z HZ.out (hkl.out z HZ.out hq))
        have HQ := Lib.hid hq
        clear hq
        go_wp2_with (first
          | (refine wpList_load_part rfl 35 _ rfl kb 0 rfl (acells .u64 2 gk) _ (hM.out.at 3 rfl).whole Tryd.underlying35 rfl (by rw [acells_size]; exact sizeC) ?_)
          | (go_at_call 52; refine (hasCell_any gk z _).mono ?_; rintro e W3 ⟨rfl, hb⟩; rw [HQ.out]; have M3 := hM.out.call hb; clear hb))
        go_roundw
        case rel => exact ⟨k + 1, by omega, by go_num, e3, Lib.hid (by rw [e1.out, e2.out]; exact M3)⟩
        case measure => simp [intOf]; omega
      | false =>
        have e1 := Lib.hid (hkn.out hq)
        have e2 := Lib.hid (han.out hq)
        have HQ := Lib.hid hq
        clear hq
        cases hp : plcB f z with
        | true =>
          have e3 := Lib.hid (hup.out z HZ.out hp)
          have hzb : 0 ≤ z ∧ z ≤ 99 := by
            obtain ⟨q, hq9, e, _⟩ := plc_cell hp; omega
          have HCZ := Lib.hid (HCF.out z hp)
          have HNZ := Lib.hid (HN.out z)
          obtain ⟨g9, hg9⟩ : ∃ g9, CS z = g9 := ⟨_, rfl⟩
          rw [hg9] at HCZ HNZ e2
          clear hp hg9

          go_upto_region 7 with (first
            | (refine wpList_load_part rfl 35 _ rfl kb 0 rfl (acells .u64 2 gk) _ (hM.out.at 3 rfl).whole Tryd.underlying35 rfl (by rw [acells_size]; exact sizeC) ?_)
            | (go_at_call 52; refine (hasCell_any gk z _).mono ?_; rintro e W3 ⟨rfl, hb⟩; rw [HQ.out]; have M3 := hM.out.call hb; clear hb))
          refine wp_region_rel_tail 7 (DL [dV (.agg (acells .u64 2 ga)), dV (.agg (fcells f)), dV (.int .i64 z), dV (.int .i64 x), dV (.int .i64 y), dV (.agg (acells .u64 2 g9)), dV (.agg (acells .u64 2 (joinC .or ga g9)))]) (fun w' => Mem w w' [⟨w.heap.size, fcells f, 33⟩, ⟨w.heap.size + 1, acells .u64 2 ga, 35⟩, ⟨w.heap.size + 1 + 1, #[.nilIface], 61⟩, ⟨kb, acells .u64 2 gk, 35⟩]) (by kernel_rfl) (by kernel_rfl) grows_mem
            (stays_DL (fun d hd => by
              simp only [List.mem_cons, List.mem_nil_iff, or_false] at hd
              rcases hd with rfl | rfl | rfl | rfl | rfl | rfl | rfl <;> exact stay_V)) M3.drew ?_
          refine rel_load 35 _ rfl (w.heap.size + 1) 0 rfl (acells .u64 2 ga) _ rfl rfl (fun w' hw' => (hw'.at 1 rfl).whole) Tryd.underlying35 rfl (by rw [acells_size]; exact sizeC) (fun _ => ?_)
          simp only [Act.put, List.setIfInBounds_toArray, List.set_cons_zero, List.set_cons_succ]
          refine rel_load 33 _ rfl w.heap.size 0 rfl (fcells f) _ rfl rfl (fun w' hw' => (hw'.at 0 rfl).whole) Tryd.underlying33 rfl (by rw [fcells_size]; exact sizeFd) (fun _ => ?_)
          simp only [Act.put, List.setIfInBounds_toArray, List.set_cons_zero, List.set_cons_succ]
          refine rel_val _ rfl rfl (fun _ _ => rfl) (fun _ => ?_)
          simp only [Act.put, List.setIfInBounds_toArray, List.set_cons_zero, List.set_cons_succ]
          refine rel_val _ rfl rfl (fun _ _ => rfl) (fun _ => ?_)
          simp only [Act.put, List.setIfInBounds_toArray, List.set_cons_zero, List.set_cons_succ]
          refine rel_val _ rfl rfl (fun _ _ => rfl) (fun _ => ?_)
          simp only [Act.put, List.setIfInBounds_toArray, List.set_cons_zero, List.set_cons_succ]
          refine rel_call (.agg (acells .u64 2 g9)) 54 #[.agg (fcells f), .int .i64 z, .int .i64 x, .int .i64 y] rfl rfl rfl rfl (enters_of Tryd.func54 (by kernel_rfl) rfl) (fun w' hw' => HCZ.out w' (S.out.later hw'.below)) (fun _ => ?_)
          simp only [Act.put, List.setIfInBounds_toArray, List.set_cons_zero, List.set_cons_succ]
          refine rel_call (.agg (acells .u64 2 (joinC .or ga g9))) 53 #[.agg (acells .u64 2 ga), .agg (acells .u64 2 g9)] rfl rfl rfl rfl (enters_of Tryd.func53 (by kernel_rfl) rfl) (fun w' _ => unionK ga g9 HNA.out HNZ.out w') (fun _ => ?_)
          simp only [Act.put, List.setIfInBounds_toArray, List.set_cons_zero, List.set_cons_succ]
          refine rel_nil (fun W5 inv => ?_)
          have M5 := inv.cls
          clear inv
          change wpList _ _ _ (_ :: []) _ _
          refine wpList_store_row rfl 35 _ _ rfl (w.heap.size + 1) (acells .u64 2 (joinC .or ga g9)) rfl rfl 35 _ (M5.at 1 rfl) (by rw [acells_size]; exact sizeC) (by simp only [acells_size]) (acells_one _ _ _) ?_
          have M6 := M5.row 1 rfl (acells .u64 2 (joinC .or ga g9))
          clear M5 M3
          generalize World.setRow _ _ _ = W6 at M6 ⊢
          obtain ⟨z9, hz9, hz8⟩ : ∃ z9 : Nat, z9 < 100 ∧ z = (z9 : Int) := ⟨z.toNat, by omega, by omega⟩
          rw [hz8, Int.toNat_natCast] at e1
          have HWC := Lib.hid (fun w => by have h := withCell_any gk z9 hz9 w; rw [← hz8] at h; exact h)
          obtain ⟨gn, hgn⟩ : ∃ gn, putC gk z9 = gn := ⟨_, rfl⟩
          rw [hgn] at HWC e1
          clear hz8 hz9 hgn
          go_wp2_with (first
            | (refine wpList_load_part rfl 35 _ rfl kb 0 rfl (acells .u64 2 gk) _ (M6.at 3 rfl).whole Tryd.underlying35 rfl (by rw [acells_size]; exact sizeC) ?_)
            | (go_at_call 55; refine (HWC.out _).mono ?_; rintro e W7 ⟨rfl, hb⟩; have M7 := M6.call hb; clear hb)
            | (refine wpList_store_row rfl 35 _ _ rfl kb (acells .u64 2 gn) rfl rfl 35 _ (M7.at 3 rfl) (by rw [acells_size]; exact sizeC) (by simp only [acells_size]) (acells_one _ _ _) ?_))
          have M8 := M7.row 3 rfl (acells .u64 2 gn)
          go_roundw
          case rel => exact ⟨k + 1, by omega, by go_num, e3, Lib.hid (by rw [e1.out, e2.out]; exact M8)⟩
          case measure => simp [intOf]; omega
        | false =>
          obtain ⟨hno0, hq0⟩ := hpl.out z HZ.out hp
          have hno := Lib.hid hno0
          obtain ⟨a, ha⟩ := HCB.out z hgb.out hp
          have HCZ := Lib.hid ha
          clear hp ha hq0 hno0
          go_upto_region 7 with (first
            | (refine wpList_load_part rfl 35 _ rfl kb 0 rfl (acells .u64 2 gk) _ (hM.out.at 3 rfl).whole Tryd.underlying35 rfl (by rw [acells_size]; exact sizeC) ?_)
            | (go_at_call 52; refine (hasCell_any gk z _).mono ?_; rintro e W3 ⟨rfl, hb⟩; rw [HQ.out]; have M3 := hM.out.call hb; clear hb))
          have M4 := M3.drew
          generalize hW4 : W3.drew = W4 at M4
          refine wp_region_any (by kernel_rfl) ?_
          change wpAny _ _ _ _ _ _ _ W3.drew
          rw [hW4]
          clear hW4 M3
          refine wpAny_take (i := 2) (v := .int .i64 z) rfl (by kernel_rfl) (by kernel_rfl) (by kernel_rfl) (fun ch a w h => leaves_tmps (by simp [results, Tryd.results29, Act.put]) _ _ _ h) (.inl ⟨rfl, fun _ => rfl⟩) ?_
          refine wpAny_take (i := 3) (v := .int .i64 x) rfl (by kernel_rfl) (by kernel_rfl) (by kernel_rfl) (fun ch a w h => leaves_tmps (by simp [results, Tryd.results29, Act.put]) _ _ _ h) (.inl ⟨rfl, fun _ => rfl⟩) ?_
          refine wpAny_take (i := 4) (v := .int .i64 y) rfl (by kernel_rfl) (by kernel_rfl) (by kernel_rfl) (fun ch a w h => leaves_tmps (by simp [results, Tryd.results29, Act.put]) _ _ _ h) (.inl ⟨rfl, fun _ => rfl⟩) ?_
          have l0 : ∀ (o : Oper) (ev : Operand → Value) (xo : Operand), o.op = .load 35 xo → ev xo = .pointer (some ⟨w.heap.size + 1, 0, none⟩) → (execOp ev o).run Tryd.prog W4 = .ok (.value (.agg (acells .u64 2 ga))) W4 := fun o ev xo ho hx => exec_loadC ho hx (M4.at 1 rfl).whole Tryd.underlying35 rfl (by rw [acells_size]; exact sizeC)
          have l1 : ∀ (o : Oper) (ev : Operand → Value) (xo : Operand), o.op = .load 33 xo → ev xo = .pointer (some ⟨w.heap.size, 0, none⟩) → (execOp ev o).run Tryd.prog W4 = .ok (.value (.agg (fcells f))) W4 := fun o ev xo ho hx => exec_loadC ho hx (M4.at 0 rfl).whole Tryd.underlying33 rfl (by rw [fcells_size]; exact sizeFd)
          refine wpAny_all (rs := [0, 1]) (by kernel_rfl) (by decide) (two_ofC ?_ ?_)
          · refine any_valC (.agg (acells .u64 2 ga)) 24 rfl rfl rfl (l0 _ _ _ rfl rfl) ?_
            refine wpAny_all (rs := [1]) (by kernel_rfl) (by decide) (one_ofC ?_)
            refine any_valC (.agg (fcells f)) 25 rfl rfl rfl (l1 _ _ _ rfl rfl) ?_
            refine wpAny_all (rs := [5]) (by kernel_rfl) (by decide) (one_ofC ?_)
            refine any_panicC 54 #[.agg (fcells f), .int .i64 z, .int .i64 x, .int .i64 y] [{ v := plcErr a, recovered := false }] (fun w' => Below W4.heap.size W4 w') rfl rfl (run_callOp rfl #[.agg (fcells f), .int .i64 z, .int .i64 x, .int .i64 y] rfl (enters_of Tryd.func54 (by kernel_rfl) rfl) _) (HCZ.out _ (S.out.later M4.below)) (fun w' hb => ?_)
            have M6 := M4.call hb
            refine leaves_cons (f := 51) (args := #[.pointer (some ⟨w.heap.size + 1, 0, none⟩), .pointer (some ⟨w.heap.size + 1 + 1, 0, none⟩)]) (by simp) (by simp [go_sem]) ?_
            refine (catch_panickingC _ 1 2 _ _ _ _ w _ a M6 rfl rfl (by decide)).mono ?_
            rintro e u' w'' ⟨rfl, rfl, M7⟩
            exact ⟨_, results_row_oneC rfl _ _ (w.heap.size + 1) (w.heap.size + 1 + 1) 35 _ (errVal a) _ rfl rfl (M7.at 1 rfl) Tryd.underlying35 rfl (by rw [acells_size]; exact sizeC) (loadVar_errC _ _ _ ((M7.at 2 rfl).cell (i := 0) rfl)), _, _, rfl, .inr ⟨hno.out, a, rfl⟩, M7.below⟩
          · refine any_valC (.agg (fcells f)) 25 rfl rfl rfl (l1 _ _ _ rfl rfl) ?_
            refine wpAny_all (rs := [0, 5]) (by kernel_rfl) (by decide) (two_ofC ?_ ?_)
            · refine any_valC (.agg (acells .u64 2 ga)) 24 rfl rfl rfl (l0 _ _ _ rfl rfl) ?_
              refine wpAny_all (rs := [5]) (by kernel_rfl) (by decide) (one_ofC ?_)
              refine any_panicC 54 #[.agg (fcells f), .int .i64 z, .int .i64 x, .int .i64 y] [{ v := plcErr a, recovered := false }] (fun w' => Below W4.heap.size W4 w') rfl rfl (run_callOp rfl #[.agg (fcells f), .int .i64 z, .int .i64 x, .int .i64 y] rfl (enters_of Tryd.func54 (by kernel_rfl) rfl) _) (HCZ.out _ (S.out.later M4.below)) (fun w' hb => ?_)
              have M6 := M4.call hb
              refine leaves_cons (f := 51) (args := #[.pointer (some ⟨w.heap.size + 1, 0, none⟩), .pointer (some ⟨w.heap.size + 1 + 1, 0, none⟩)]) (by simp) (by simp [go_sem]) ?_
              refine (catch_panickingC _ 1 2 _ _ _ _ w _ a M6 rfl rfl (by decide)).mono ?_
              rintro e u' w'' ⟨rfl, rfl, M7⟩
              exact ⟨_, results_row_oneC rfl _ _ (w.heap.size + 1) (w.heap.size + 1 + 1) 35 _ (errVal a) _ rfl rfl (M7.at 1 rfl) Tryd.underlying35 rfl (by rw [acells_size]; exact sizeC) (loadVar_errC _ _ _ ((M7.at 2 rfl).cell (i := 0) rfl)), _, _, rfl, .inr ⟨hno.out, a, rfl⟩, M7.below⟩
            · skip
              refine any_panicC 54 #[.agg (fcells f), .int .i64 z, .int .i64 x, .int .i64 y] [{ v := plcErr a, recovered := false }] (fun w' => Below W4.heap.size W4 w') rfl rfl (run_callOp rfl #[.agg (fcells f), .int .i64 z, .int .i64 x, .int .i64 y] rfl (enters_of Tryd.func54 (by kernel_rfl) rfl) _) (HCZ.out _ (S.out.later M4.below)) (fun w' hb => ?_)
              have M6 := M4.call hb
              refine leaves_cons (f := 51) (args := #[.pointer (some ⟨w.heap.size + 1, 0, none⟩), .pointer (some ⟨w.heap.size + 1 + 1, 0, none⟩)]) (by simp) (by simp [go_sem]) ?_
              refine (catch_panickingC _ 1 2 _ _ _ _ w _ a M6 rfl rfl (by decide)).mono ?_
              rintro e u' w'' ⟨rfl, rfl, M7⟩
              exact ⟨_, results_row_oneC rfl _ _ (w.heap.size + 1) (w.heap.size + 1 + 1) 35 _ (errVal a) _ rfl rfl (M7.at 1 rfl) Tryd.underlying35 rfl (by rw [acells_size]; exact sizeC) (loadVar_errC _ _ _ ((M7.at 2 rfl).cell (i := 0) rfl)), _, _, rfl, .inr ⟨hno.out, a, rfl⟩, M7.below⟩
    · obtain rfl : k = m := by omega
      have hyes : Hid (allTo k (fun i => plcB f (g i)) = true) := Lib.hid (allTo_iff.2 hall.out)
      obtain ⟨ga, hga⟩ : ∃ ga, alS CS g k = ga := ⟨_, rfl⟩
      have HGA := Lib.hid hga
      rw [hga] at hM
      clear hga
      go_wp2_with (first
        | (refine wpList_load_part rfl 35 _ rfl (w.heap.size + 1) 0 rfl (acells .u64 2 ga) _ (hM.out.at 1 rfl).whole Tryd.underlying35 rfl (by rw [acells_size]; exact sizeC) ?_)
        | (refine wpList_store_row rfl 35 _ _ rfl (w.heap.size + 1) (acells .u64 2 ga) rfl rfl 35 _ (hM.out.at 1 rfl) (by rw [acells_size]; exact sizeC) (by simp only [acells_size]) (acells_one _ _ _) ?_; have M5 := hM.out.row 1 rfl (acells .u64 2 ga); have d0 := (M5.at 2 rfl).cell (i := 0) (v := .nilIface) rfl; have e0 := (M5.at 2 rfl).free 0))
      have M6 := M5.set 2 0 .nilIface rfl #[.nilIface] rfl
      refine leaves_cons (f := 51) (args := #[.pointer (some ⟨w.heap.size + 1, 0, none⟩), .pointer (some ⟨w.heap.size + 1 + 1, 0, none⟩)]) (by simp) (by simp [go_sem]) ?_
      refine (catch_idleC _ _ _).mono ?_
      rintro e u' w'' ⟨rfl, rfl, rfl⟩
      exact ⟨_, results_row_oneC rfl _ _ (w.heap.size + 1) (w.heap.size + 1 + 1) 35 _ .nilIface _ rfl rfl (M6.at 1 rfl) Tryd.underlying35 rfl (by rw [acells_size]; exact sizeC) (loadVar_errC _ _ _ ((M6.at 2 rfl).cell (i := 0) rfl)), _, _, rfl, .inl ⟨hyes.out, HGA.out.symm, rfl⟩, M6.below⟩
end Go.Proofs.YteclngooblafoaaDoor
