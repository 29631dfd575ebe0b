/-
  What is covered from one number: the program's.
-/
import Derived.Test.YteclngooblafoaaDoorCvQ
import Derived.Test.YteclngooblafoaaDoorSetB
import Derived.Test.YteclngooblafoaaDoorCoreB
namespace Go.Proofs.YteclngooblafoaaDoor
open Go Go.RowKit Go.Stop Go.Extern.Stop

theorem want_N100C (f : Fd) (q : Nat → Bool) : ∀ n, n ≤ 100 → N100 (wantSet f q n)
  | 0, _ => zero_N100
  | n + 1, h => by
    cases e : (isCell f n && q n) with
    | true =>
      have e' := e
      simp only [Bool.and_eq_true] at e'
      rw [wantSet_yes e'.1 e'.2]; exact putC_N100 (want_N100C f q n (by omega)) (by omega)
    | false => rw [wantSet_no e]; exact want_N100C f q n (by omega)
theorem or_zeroC {g : Nat → Int} (hg : N100 g) : acells .u64 2 (joinC .or (fun _ => 0) g) = acells .u64 2 g := acells_congr (fun i _ => by
  obtain ⟨a, b, ea, eb, _, _, h, _⟩ := or_nat (f := fun _ => 0) zero_N100.1 hg.1 i
  have e0 : a = 0 := by
    have : (0 : Int) = (a : Int) := ea
    omega
  rw [h, e0, Nat.zero_or, eb])
theorem unionC (g : Nat → Int) (hg : N100 g) (w : World) : Calls Tryd.prog 53 #[.agg (acells .u64 2 (fun _ => 0)), .agg (acells .u64 2 g)] w fun e w' => e = .returned (.agg (acells .u64 2 g)) ∧ Below w.heap.size w w' := by
  have h := implUnionOf (fun _ => 0) g w
  rw [opC_join (or_N100 zero_N100 hg), or_zeroC hg] at h
  exact h
/-- A row and a single cell. -/
theorem results_row_oneC {P : Program} {fn : Func} {p q : Tmp} {ty ti : TypeId} (h : fn.results = #[.cell p ty, .cell q ti]) (tmps : Array Value) (w : World) (b1 b2 : Nat) (t : TypeId) (cs : Array Value) (v : Value) (d : TypeDesc)
    (hp : tmps.getD p undef = .pointer (some ⟨b1, 0, none⟩)) (hq : tmps.getD q undef = .pointer (some ⟨b2, 0, none⟩)) (B : Blk w b1 cs t) (hu : P.underlying ty = some d) (hd : (match d with | .struct _ | .array _ _ => true | _ => false) = true) (hi : (P.info? ty).map (·.size) = some cs.size)
    (hl : (loadVar ti ⟨b2, 0, none⟩).run P w = .ok v w) : (results fn tmps).run P w = .ok (.tuple #[.agg cs, v]) w := by
  have hp' : tmps[p]?.getD undef = .pointer (some ⟨b1, 0, none⟩) := by simpa using hp
  have hq' : tmps[q]?.getD undef = .pointer (some ⟨b2, 0, none⟩) := by simpa using hq
  simp [results, h, hp', hq', asAddr, Result.andThen, run_loadVar_row w b1 t ty cs (0, 0) d B hu hd hi, hl]
theorem loadVar_errC (b : Nat) (v : Value) (w : World) (c : w.cell? ⟨b, 0, none⟩ = some v) : (loadVar 61 ⟨b, 0, none⟩).run Tryd.prog w = .ok v w := by
  simp [go_sem, c]
set_option maxRecDepth 100000 in
set_option maxHeartbeats 8000000 in
theorem coverOfAll_one (f : Fd) (hf : f.Wf) (hok : okF f = true) (p : Nat) (hp : p < 100) (hc : isCell f (p : Int) = true) (hK : f.K p ≠ 3) (x y : Int) (hx0 : 1 ≤ x ∧ x ≤ 1000) (b : Nat) (A : Nat → Addr) (w : World) (cP : w.cell? ⟨b, 0, none⟩ = some (.int .i64 (p : Int))) (S0 : Sents w A) :
    Calls Tryd.prog 29 #[.agg (fcells f), .int .i64 x, .int .i64 y, .slice (some ⟨b, 0, none⟩) 1 1] w fun e w' => e = .returned (.tuple #[.agg (acells .u64 2 (cvS f p x y)), .nilIface]) ∧ Below w.heap.size w w' := by
  have S : Hid (Sents w A) := Lib.hid S0
  have HP := Lib.hid cP
  clear S0 cP
  have hmf : ∀ (fn : Fn) (first cap : Array Value) (w : World), (Instr.makeFunc fn first cap).run Tryd.prog w = .ok (.func fn first cap) w := fun _ _ _ _ => rfl
  have HCF := Lib.hid (fun w S => coverFrom_any f hf hok p hp hc hK x y hx0 A w S)
  obtain ⟨g9, hg9⟩ : ∃ g9, cvS f p x y = g9 := ⟨_, rfl⟩
  have HN : Hid (N100 g9) := Lib.hid (by rw [← hg9]; exact want_N100C f _ 100 (Nat.le_refl _))
  have HZ := Lib.hid (hasC_zero p hp)
  rw [hg9] at HCF ⊢
  clear hg9 hok hc hK hx0
  go_enter_defers Tryd.func29, Tryd.ntmps29
  go_upto_region 1 with (fail)
  rw [zero2]
  obtain ⟨W, hW, M⟩ := open3 w (fcells f) 33 (acells .u64 2 (fun _ => 0)) 35 #[.nilIface] 61
  rw [hW]; clear hW
  go_upto_region 3 with (fail)
  (try rw [zero2])
  have M0 := M.alloc (acells .u64 2 (fun _ => 0)) 35
  obtain ⟨kb, hkb⟩ : ∃ kb, kb = W.heap.size := ⟨_, rfl⟩
  have M2 : Mem w (W.alloc (Obj.cells (acells .u64 2 (fun _ => 0)) 35)) [⟨w.heap.size, fcells f, 33⟩, ⟨w.heap.size + 1, acells .u64 2 (fun _ => 0), 35⟩, ⟨w.heap.size + 1 + 1, #[.nilIface], 61⟩, ⟨kb, acells .u64 2 (fun _ => 0), 35⟩] := by rw [hkb]; exact M0
  generalize W.alloc _ = W2 at M2 ⊢
  rw [← hkb]
  clear hkb M0 M
  have HM := Lib.hid M2
  clear M2
  go_wp2_with fail
  go_loopw [12, 16] (fun _ i wr => (i = .int .i64 0 ∧ Hid (Mem w wr [⟨w.heap.size, fcells f, 33⟩, ⟨w.heap.size + 1, acells .u64 2 (fun _ => 0), 35⟩, ⟨w.heap.size + 1 + 1, #[.nilIface], 61⟩, ⟨kb, acells .u64 2 (fun _ => 0), 35⟩])) ∨ (i = .int .i64 1 ∧ Hid (Mem w wr [⟨w.heap.size, fcells f, 33⟩, ⟨w.heap.size + 1, acells .u64 2 (g9), 35⟩, ⟨w.heap.size + 1 + 1, #[.nilIface], 61⟩, ⟨kb, acells .u64 2 (putC (fun _ => 0) p), 35⟩]))) (fun _ i _ => 1 - (intOf i).toNat)
  case atStart => exact .inl ⟨rfl, HM⟩
  case round =>
    clear HM
    rcases hrel with ⟨rfl, hM⟩ | ⟨rfl, hM⟩
    · have cP := cell_later HP.out hM.out.below
      go_upto_region 7 with (first
        | (refine wpList_load_part rfl 35 _ rfl kb 0 rfl (acells .u64 2 (fun _ => 0)) _ (hM.out.at 3 rfl).whole Tryd.underlying35 rfl (by rw [acells_size]; exact sizeC) ?_)
        | (go_at_call 52; refine (hasCell_any (fun _ => 0) (p : Int) _).mono ?_; rintro e W3 ⟨rfl, hb⟩; rw [HZ.out]; have M3 := hM.out.call hb; clear hb))
      refine wp_region_rel_tail 7 (DL [dV (.agg (acells .u64 2 (fun _ => 0))), dV (.agg (fcells f)), dV (.int .i64 (p : Int)), dV (.int .i64 x), dV (.int .i64 y), dV (.agg (acells .u64 2 g9)), dV (.agg (acells .u64 2 g9))]) (fun w' => Mem w w' [⟨w.heap.size, fcells f, 33⟩, ⟨w.heap.size + 1, acells .u64 2 (fun _ => 0), 35⟩, ⟨w.heap.size + 1 + 1, #[.nilIface], 61⟩, ⟨kb, acells .u64 2 (fun _ => 0), 35⟩]) (by kernel_rfl) (by kernel_rfl) grows_mem
        (stays_DL (fun d hd => by
          simp only [List.mem_cons, List.mem_nil_iff, or_false] at hd
          rcases hd with rfl | rfl | rfl | rfl | rfl | rfl | rfl <;> exact stay_V)) M3.drew ?_
      refine rel_load 35 _ rfl (w.heap.size + 1) 0 rfl (acells .u64 2 (fun _ => 0)) _ rfl rfl (fun w' hw' => (hw'.at 1 rfl).whole) Tryd.underlying35 rfl (by rw [acells_size]; exact sizeC) (fun _ => ?_)
      simp only [Act.put, List.setIfInBounds_toArray, List.set_cons_zero, List.set_cons_succ]
      refine rel_load 33 _ rfl w.heap.size 0 rfl (fcells f) _ rfl rfl (fun w' hw' => (hw'.at 0 rfl).whole) Tryd.underlying33 rfl (by rw [fcells_size]; exact sizeFd) (fun _ => ?_)
      simp only [Act.put, List.setIfInBounds_toArray, List.set_cons_zero, List.set_cons_succ]
      refine rel_val _ rfl rfl (fun _ _ => rfl) (fun _ => ?_)
      simp only [Act.put, List.setIfInBounds_toArray, List.set_cons_zero, List.set_cons_succ]
      refine rel_val _ rfl rfl (fun _ _ => rfl) (fun _ => ?_)
      simp only [Act.put, List.setIfInBounds_toArray, List.set_cons_zero, List.set_cons_succ]
      refine rel_val _ rfl rfl (fun _ _ => rfl) (fun _ => ?_)
      simp only [Act.put, List.setIfInBounds_toArray, List.set_cons_zero, List.set_cons_succ]
      refine rel_call (.agg (acells .u64 2 g9)) 54 #[.agg (fcells f), .int .i64 (p : Int), .int .i64 x, .int .i64 y] rfl rfl rfl rfl (enters_of Tryd.func54 (by kernel_rfl) rfl) (fun w' hw' => HCF.out w' (S.out.later hw'.below)) (fun _ => ?_)
      simp only [Act.put, List.setIfInBounds_toArray, List.set_cons_zero, List.set_cons_succ]
      refine rel_call (.agg (acells .u64 2 g9)) 53 #[.agg (acells .u64 2 (fun _ => 0)), .agg (acells .u64 2 g9)] rfl rfl rfl rfl (enters_of Tryd.func53 (by kernel_rfl) rfl) (fun w' _ => unionC g9 HN.out w') (fun _ => ?_)
      simp only [Act.put, List.setIfInBounds_toArray, List.set_cons_zero, List.set_cons_succ]
      refine rel_nil (fun W5 inv => ?_)
      have M5 := inv.cls
      clear inv
      change wpList _ _ _ (_ :: []) _ _
      refine wpList_store_row rfl 35 _ _ rfl (w.heap.size + 1) (acells .u64 2 g9) rfl rfl 35 _ (M5.at 1 rfl) (by rw [acells_size]; exact sizeC) (by simp only [acells_size]) (acells_one _ _ _) ?_
      have M6 := M5.row 1 rfl (acells .u64 2 g9)
      clear M5 M3
      generalize World.setRow _ _ _ = W6 at M6 ⊢
      go_wp2_with (first
        | (refine wpList_load_part rfl 35 _ rfl kb 0 rfl (acells .u64 2 (fun _ => 0)) _ (M6.at 3 rfl).whole Tryd.underlying35 rfl (by rw [acells_size]; exact sizeC) ?_)
        | (go_at_call 55; refine (withCell_any (fun _ => 0) p hp _).mono ?_; rintro e W7 ⟨rfl, hb⟩; have M7 := M6.call hb; clear hb)
        | (refine wpList_store_row rfl 35 _ _ rfl kb (acells .u64 2 (putC (fun _ => 0) p)) rfl rfl 35 _ (M7.at 3 rfl) (by rw [acells_size]; exact sizeC) (by simp only [acells_size]) (acells_one _ _ _) ?_))
      have M8 := M7.row 3 rfl (acells .u64 2 (putC (fun _ => 0) p))
      go_roundw
      case rel => exact .inr ⟨by go_num, Lib.hid M8⟩
      case measure => simp [intOf]
    · go_wp2_with (first
        | (refine wpList_load_part rfl 35 _ rfl (w.heap.size + 1) 0 rfl (acells .u64 2 g9) _ (hM.out.at 1 rfl).whole Tryd.underlying35 rfl (by rw [acells_size]; exact sizeC) ?_)
        | (refine wpList_store_row rfl 35 _ _ rfl (w.heap.size + 1) (acells .u64 2 g9) rfl rfl 35 _ (hM.out.at 1 rfl) (by rw [acells_size]; exact sizeC) (by simp only [acells_size]) (acells_one _ _ _) ?_; have M5 := hM.out.row 1 rfl (acells .u64 2 g9); have d0 := (M5.at 2 rfl).cell (i := 0) (v := .nilIface) rfl; have e0 := (M5.at 2 rfl).free 0))
      have M6 := M5.set 2 0 .nilIface rfl #[.nilIface] rfl
      refine leaves_cons (f := 51) (args := #[.pointer (some ⟨w.heap.size + 1, 0, none⟩), .pointer (some ⟨w.heap.size + 1 + 1, 0, none⟩)]) (by simp) (by simp [go_sem]) ?_
      refine (catch_idleC _ _ _).mono ?_
      rintro e u' w'' ⟨rfl, rfl, rfl⟩
      exact ⟨_, results_row_oneC rfl _ _ (w.heap.size + 1) (w.heap.size + 1 + 1) 35 _ .nilIface _ rfl rfl (M6.at 1 rfl) Tryd.underlying35 rfl (by rw [acells_size]; exact sizeC) (loadVar_errC _ _ _ ((M6.at 2 rfl).cell (i := 0) rfl)), rfl, M6.below⟩
section
variable {P : Program} {ops : Array Oper} {Q : Exit → Act → World → Prop} {K : Act → World → Prop} {a : Act} {w w' : World} {i : Nat} {o : Oper}
theorem any_valC (v : Value) (d : Nat) (ho : ops[i]? = some o) (hd : o.dst = some d) (hg : o.guard = none) (hr : (execOp a.eval o).run P w = .ok (.value v) w') (h : K (a.put (some d) v) w') : wpOp P ops Q i K a w := by
  have hw : Region.wanted o (yielded ops a.tmps) = true := by simp [Region.wanted, hg]
  unfold wpOp
  rw [ho]
  simp only [hw, if_true]
  refine .inl ?_
  unfold Oper.wp
  rw [hr]
  rw [← hd] at h
  exact h
theorem any_panicC (f : FuncId) (args : Array Value) (ch : _) (R : World → Prop) (ho : ops[i]? = some o) (hg : o.guard = none) (hr : (execOp a.eval o).run P w = .ok (.enter f args) w) (hc : Calls P f args w fun e w' => e = .panicked ch ∧ R w') (h : ∀ w', R w' → Q (.panic ch) a w') : wpOp P ops Q i K a w := by
  have hw : Region.wanted o (yielded ops a.tmps) = true := by simp [Region.wanted, hg]
  unfold wpOp
  rw [ho]
  simp only [hw, if_true]
  refine .inl ?_
  unfold Oper.wp
  rw [hr]
  refine hc.mono ?_
  rintro e w' ⟨rfl, hR⟩
  exact h w' hR
theorem exec_loadC {ev : Operand → Value} {ty : TypeId} {x : Operand} {b off : Nat} {vs : Array Value} {d : TypeDesc} (ho : o.op = .load ty x) (hx : ev x = .pointer (some ⟨b, off, none⟩)) (hr : w.rangeAt b off vs.toList) (hu : P.underlying ty = some d) (hd : d.isRow = true) (hi : (P.info? ty).map (·.size) = some vs.size) : (execOp ev o).run P w = .ok (.value (.agg vs)) w := by
  unfold execOp
  simp only [ho, hx, Sem.run_bind, run_loadAt_part w b off ty vs d hr hu hd hi, Result.andThen_ok, Sem.run_pure]
theorem one_ofC {j : Nat} {p : Nat → Prop} (h : p j) : ∀ i ∈ [j], p i := fun i hi => by
  have : i = j := by simpa using hi
  subst this; exact h
theorem two_ofC {j k : Nat} {p : Nat → Prop} (h : p j) (h2 : p k) : ∀ i ∈ [j, k], p i := fun i hi => by
  simp only [List.mem_cons, List.mem_nil_iff, or_false] at hi
  rcases hi with rfl | rfl
  · exact h
  · exact h2
end
/-- The deferred calls look at the slots of the results alone. -/
theorem leaves_tmps {P : Program} {fn : Func} {t1 t2 : Array Value} {R : Ending → World → Prop} (h : results fn t1 = results fn t2) : ∀ (ds : List Deferred) (u : FrameMode) (w : World), Leaves P fn t1 R ds u w → Leaves P fn t2 R ds u w
  | [], .returning, w, hh => by unfold Leaves at hh ⊢; rw [← h]; exact hh
  | [], .panicking _, w, hh => hh
  | [], .run, w, hh => hh
  | d :: ds, u, w, hh => by
    unfold Leaves at hh ⊢
    obtain ⟨hu, fv, cap, f, args, h1, h2, hc⟩ := hh
    refine ⟨hu, fv, cap, f, args, h1, h2, hc.mono ?_⟩
    intro e u' w' hk
    cases e with
    | returned _ => exact leaves_tmps h ds _ _ hk
    | panicked _ => exact leaves_tmps h ds _ _ hk
    | outgrown => exact hk
theorem hasC_zeroI (c : Int) : hasC (fun _ => 0) c = false := by
  by_cases h : 0 ≤ c ∧ c < 100
  · obtain ⟨k, rfl⟩ : ∃ k : Nat, c = (k : Int) := ⟨c.toNat, by omega⟩
    exact hasC_zero k (by omega)
  · unfold hasC
    have h2 : ¬ (0 ≤ c ∧ c ≤ 99) := by omega
    simp only [inB]
    simp
    omega
set_option maxRecDepth 100000 in
set_option maxHeartbeats 8000000 in
theorem coverOfAll_none (f : Fd) (hf : f.Wf) (hok : okF f = true) (c : Int) (hc0 : -9223372036854775808 ≤ c ∧ c ≤ 9223372036854775807) (x y : Int) (b : Nat) (A : Nat → Addr) (a : Addr) (he : placeErr A f c = errVal a) (w : World) (cP : w.cell? ⟨b, 0, none⟩ = some (.int .i64 c)) (S0 : Sents w A) :
    Calls Tryd.prog 29 #[.agg (fcells f), .int .i64 x, .int .i64 y, .slice (some ⟨b, 0, none⟩) 1 1] w fun e w' => e = .returned (.tuple #[.agg (acells .u64 2 (fun _ => 0)), errVal a]) ∧ Below w.heap.size w w' := by
  have S : Hid (Sents w A) := Lib.hid S0
  have HP := Lib.hid cP
  clear S0 cP
  have hmf : ∀ (fn : Fn) (first cap : Array Value) (w : World), (Instr.makeFunc fn first cap).run Tryd.prog w = .ok (.func fn first cap) w := fun _ _ _ _ => rfl
  have HCF := Lib.hid (fun w S => coverFrom_bad f hf hok c hc0 x y A a he w S)
  have HZ : Hid (hasC (fun _ => 0) c = false) := Lib.hid (hasC_zeroI c)
  clear hok hc0 he
  go_enter_defers Tryd.func29, Tryd.ntmps29
  go_upto_region 1 with (fail)
  rw [zero2]
  obtain ⟨W, hW, M⟩ := open3 w (fcells f) 33 (acells .u64 2 (fun _ => 0)) 35 #[.nilIface] 61
  rw [hW]; clear hW
  go_upto_region 3 with (fail)
  (try rw [zero2])
  have M0 := M.alloc (acells .u64 2 (fun _ => 0)) 35
  obtain ⟨kb, hkb⟩ : ∃ kb, kb = W.heap.size := ⟨_, rfl⟩
  have M2 : Mem w (W.alloc (Obj.cells (acells .u64 2 (fun _ => 0)) 35)) [⟨w.heap.size, fcells f, 33⟩, ⟨w.heap.size + 1, acells .u64 2 (fun _ => 0), 35⟩, ⟨w.heap.size + 1 + 1, #[.nilIface], 61⟩, ⟨kb, acells .u64 2 (fun _ => 0), 35⟩] := by rw [hkb]; exact M0
  generalize W.alloc _ = W2 at M2 ⊢
  rw [← hkb]
  clear hkb M0 M
  have HM := Lib.hid M2
  clear M2
  go_wp2_with fail
  go_loopw [12, 16] (fun _ i wr => i = .int .i64 0 ∧ Hid (Mem w wr [⟨w.heap.size, fcells f, 33⟩, ⟨w.heap.size + 1, acells .u64 2 (fun _ => 0), 35⟩, ⟨w.heap.size + 1 + 1, #[.nilIface], 61⟩, ⟨kb, acells .u64 2 (fun _ => 0), 35⟩])) (fun _ i _ => 1 - (intOf i).toNat)
  case atStart => exact ⟨rfl, HM⟩
  case round =>
    clear HM
    obtain ⟨rfl, hM⟩ := hrel
    have cP := cell_later HP.out hM.out.below
    go_upto_region 7 with (first
      | (refine wpList_load_part rfl 35 _ rfl kb 0 rfl (acells .u64 2 (fun _ => 0)) _ (hM.out.at 3 rfl).whole Tryd.underlying35 rfl (by rw [acells_size]; exact sizeC) ?_)
      | (go_at_call 52; refine (hasCell_any (fun _ => 0) c _).mono ?_; rintro e W3 ⟨rfl, hb⟩; rw [HZ.out]; have M3 := hM.out.call hb; clear hb))
    have M4 := M3.drew
    generalize hW4 : W3.drew = W4 at M4
    refine wp_region_any (by kernel_rfl) ?_
    change wpAny _ _ _ _ _ _ _ W3.drew
    rw [hW4]
    clear hW4 M3
    refine wpAny_take (i := 2) (v := .int .i64 c) rfl (by kernel_rfl) (by kernel_rfl) (by kernel_rfl) (fun ch a w h => leaves_tmps (by simp [results, Tryd.results29, Act.put]) _ _ _ h) (.inl ⟨rfl, fun _ => rfl⟩) ?_
    refine wpAny_take (i := 3) (v := .int .i64 x) rfl (by kernel_rfl) (by kernel_rfl) (by kernel_rfl) (fun ch a w h => leaves_tmps (by simp [results, Tryd.results29, Act.put]) _ _ _ h) (.inl ⟨rfl, fun _ => rfl⟩) ?_
    refine wpAny_take (i := 4) (v := .int .i64 y) rfl (by kernel_rfl) (by kernel_rfl) (by kernel_rfl) (fun ch a w h => leaves_tmps (by simp [results, Tryd.results29, Act.put]) _ _ _ h) (.inl ⟨rfl, fun _ => rfl⟩) ?_
    have l0 : ∀ (o : Oper) (ev : Operand → Value) (xo : Operand), o.op = .load 35 xo → ev xo = .pointer (some ⟨w.heap.size + 1, 0, none⟩) → (execOp ev o).run Tryd.prog W4 = .ok (.value (.agg (acells .u64 2 (fun _ => 0)))) W4 := fun o ev xo ho hx => exec_loadC ho hx (M4.at 1 rfl).whole Tryd.underlying35 rfl (by rw [acells_size]; exact sizeC)
    have l1 : ∀ (o : Oper) (ev : Operand → Value) (xo : Operand), o.op = .load 33 xo → ev xo = .pointer (some ⟨w.heap.size, 0, none⟩) → (execOp ev o).run Tryd.prog W4 = .ok (.value (.agg (fcells f))) W4 := fun o ev xo ho hx => exec_loadC ho hx (M4.at 0 rfl).whole Tryd.underlying33 rfl (by rw [fcells_size]; exact sizeFd)
    refine wpAny_all (rs := [0, 1]) (by kernel_rfl) (by decide) (two_ofC ?_ ?_)
    · refine any_valC (.agg (acells .u64 2 (fun _ => 0))) 24 rfl rfl rfl (l0 _ _ _ rfl rfl) ?_
      refine wpAny_all (rs := [1]) (by kernel_rfl) (by decide) (one_ofC ?_)
      refine any_valC (.agg (fcells f)) 25 rfl rfl rfl (l1 _ _ _ rfl rfl) ?_
      refine wpAny_all (rs := [5]) (by kernel_rfl) (by decide) (one_ofC ?_)
      refine any_panicC 54 #[.agg (fcells f), .int .i64 c, .int .i64 x, .int .i64 y] [{ v := plcErr a, recovered := false }] (fun w' => Below W4.heap.size W4 w') rfl rfl (run_callOp rfl #[.agg (fcells f), .int .i64 c, .int .i64 x, .int .i64 y] rfl (enters_of Tryd.func54 (by kernel_rfl) rfl) _) (HCF.out _ (S.out.later M4.below)) (fun w' hb => ?_)
      have M6 := M4.call hb
      refine leaves_cons (f := 51) (args := #[.pointer (some ⟨w.heap.size + 1, 0, none⟩), .pointer (some ⟨w.heap.size + 1 + 1, 0, none⟩)]) (by simp) (by simp [go_sem]) ?_
      refine (catch_panickingC _ 1 2 _ _ _ _ w _ a M6 rfl rfl (by decide)).mono ?_
      rintro e u' w'' ⟨rfl, rfl, M7⟩
      exact ⟨_, results_row_oneC rfl _ _ (w.heap.size + 1) (w.heap.size + 1 + 1) 35 _ (errVal a) _ rfl rfl (M7.at 1 rfl) Tryd.underlying35 rfl (by rw [acells_size]; exact sizeC) (loadVar_errC _ _ _ ((M7.at 2 rfl).cell (i := 0) rfl)), rfl, M7.below⟩
    · refine any_valC (.agg (fcells f)) 25 rfl rfl rfl (l1 _ _ _ rfl rfl) ?_
      refine wpAny_all (rs := [0, 5]) (by kernel_rfl) (by decide) (two_ofC ?_ ?_)
      · refine any_valC (.agg (acells .u64 2 (fun _ => 0))) 24 rfl rfl rfl (l0 _ _ _ rfl rfl) ?_
        refine wpAny_all (rs := [5]) (by kernel_rfl) (by decide) (one_ofC ?_)
        refine any_panicC 54 #[.agg (fcells f), .int .i64 c, .int .i64 x, .int .i64 y] [{ v := plcErr a, recovered := false }] (fun w' => Below W4.heap.size W4 w') rfl rfl (run_callOp rfl #[.agg (fcells f), .int .i64 c, .int .i64 x, .int .i64 y] rfl (enters_of Tryd.func54 (by kernel_rfl) rfl) _) (HCF.out _ (S.out.later M4.below)) (fun w' hb => ?_)
        have M6 := M4.call hb
        refine leaves_cons (f := 51) (args := #[.pointer (some ⟨w.heap.size + 1, 0, none⟩), .pointer (some ⟨w.heap.size + 1 + 1, 0, none⟩)]) (by simp) (by simp [go_sem]) ?_
        refine (catch_panickingC _ 1 2 _ _ _ _ w _ a M6 rfl rfl (by decide)).mono ?_
        rintro e u' w'' ⟨rfl, rfl, M7⟩
        exact ⟨_, results_row_oneC rfl _ _ (w.heap.size + 1) (w.heap.size + 1 + 1) 35 _ (errVal a) _ rfl rfl (M7.at 1 rfl) Tryd.underlying35 rfl (by rw [acells_size]; exact sizeC) (loadVar_errC _ _ _ ((M7.at 2 rfl).cell (i := 0) rfl)), rfl, M7.below⟩
      · skip
        refine any_panicC 54 #[.agg (fcells f), .int .i64 c, .int .i64 x, .int .i64 y] [{ v := plcErr a, recovered := false }] (fun w' => Below W4.heap.size W4 w') rfl rfl (run_callOp rfl #[.agg (fcells f), .int .i64 c, .int .i64 x, .int .i64 y] rfl (enters_of Tryd.func54 (by kernel_rfl) rfl) _) (HCF.out _ (S.out.later M4.below)) (fun w' hb => ?_)
        have M6 := M4.call hb
        refine leaves_cons (f := 51) (args := #[.pointer (some ⟨w.heap.size + 1, 0, none⟩), .pointer (some ⟨w.heap.size + 1 + 1, 0, none⟩)]) (by simp) (by simp [go_sem]) ?_
        refine (catch_panickingC _ 1 2 _ _ _ _ w _ a M6 rfl rfl (by decide)).mono ?_
        rintro e u' w'' ⟨rfl, rfl, M7⟩
        exact ⟨_, results_row_oneC rfl _ _ (w.heap.size + 1) (w.heap.size + 1 + 1) 35 _ (errVal a) _ rfl rfl (M7.at 1 rfl) Tryd.underlying35 rfl (by rw [acells_size]; exact sizeC) (loadVar_errC _ _ _ ((M7.at 2 rfl).cell (i := 0) rfl)), rfl, M7.below⟩
end Go.Proofs.YteclngooblafoaaDoor
