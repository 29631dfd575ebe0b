/-
  DiaryOf: the program's.
-/
import Derived.Test.YtddbpbibjiahgaaDoorDia
import Derived.Test.YtddbpbibjiahgaaDoorChk3
import Derived.Test.YtddbpbibjiahgaaDoorCoreB
import Derived.Test.YtddbpbibjiahgaaDoorRelA
namespace Go.Proofs.YtddbpbibjiahgaaDoor
open Go Go.RowKit Go.Shelf
attribute [local go_sem] Oper.semAt_some

theorem run_buildSlice_twoD {P : Program} (w : World) (t e : TypeId) (cs ds : Array Value) (hds : ds.size = cs.size) (hu : P.underlying t = some (.slice e)) (hsz : (P.info? e).map (·.size) = some cs.size) (hz : ((P.info? e).bind (·.zero)).map (·.cells.size) = some cs.size) (hpos : 0 < cs.size) (hsmall : 2 * cs.size ≤ 2 ^ 24) :
    (Instr.buildSlice t 2 #[(0, .agg cs), (1, .agg ds)]).run P w = .ok (.slice (some ⟨w.heap.size, 0, none⟩) 2 2) (w.alloc (.cells (cs ++ ds) e)) := by
  cases hie : P.info? e with
  | none => simp [hie] at hsz
  | some ie =>
    simp only [hie, Option.map_some, Option.some.injEq, Option.bind_some] at hsz hz
    cases hzz : ie.zero with
    | none => simp [hzz] at hz
    | some z =>
      refine run_buildSlice w t e 2 _ (cs ++ ds) ie z hu hie hzz (by rw [hsz]; omega) (by rw [hsz]; omega) ?_
      have := Great.fill_whole (s := cs.size) hpos [Value.agg cs, Value.agg ds] ((Array.range (2 * ie.size)).map (z.cells[· % z.cells.size]!)) (fun v hv => by
        simp only [List.mem_cons, List.mem_nil_iff, or_false] at hv
        rcases hv with rfl | rfl
        · rfl
        · exact hds) (by simp [hsz])
      have e2 : ([Value.agg cs, Value.agg ds].flatMap fun v => v.cells.toList).toArray = cs ++ ds := by simp [Value.cells]
      rw [e2] at this
      rw [hsz] at this ⊢
      exact this
theorem wpList_buildTwoD {P : Program} {ops : Array Oper} {rest : List Oper} {op : Oper} {a : Act} {w : World} {Q : Exit → Act → World → Prop} (hgd : op.guard = none) (t e : TypeId) (x y : Operand) (ho : op.op = .buildSlice t 2 #[(0, x), (1, y)]) (cs ds : Array Value) (hx : a.eval x = .agg cs) (hy : a.eval y = .agg ds) (hds : ds.size = cs.size)
    (hu : P.underlying t = some (.slice e)) (hsz : (P.info? e).map (·.size) = some cs.size) (hz : ((P.info? e).bind (·.zero)).map (·.cells.size) = some cs.size) (hpos : 0 < cs.size) (hsmall : 2 * cs.size ≤ 2 ^ 24)
    (h : wpList P ops Q rest (a.put op.dst (.slice (some ⟨w.heap.size, 0, none⟩) 2 2)) (w.alloc (.cells (cs ++ ds) e))) : wpList P ops Q (op :: rest) a w := by
  refine wpList_plain hgd fun K hK => ?_
  unfold Oper.wp execOp
  have := run_buildSlice_twoD (P := P) w t e cs ds hds hu hsz hz hpos hsmall
  simp only [ho, List.map_toArray, List.map_cons, List.map_nil, hx, hy, Sem.run_bind, this, Result.andThen_ok]
  exact hK _ _ h
theorem owns_belowD {w w' : World} {base : Nat} {e : TypeId} {size : Nat} {v : Value} {n : Nat} {xs : List Value} (h : w.ownsRow base e size v n xs) (hb : Below w.heap.size w w') : w'.ownsRow base e size v n xs :=
  ⟨h.1, h.2.imp id fun ⟨g, cap, cur, h1, h2, h3, h4⟩ => ⟨g, cap, cur, h1, h2, (hb.block g (Array.getElem?_eq_some_iff.1 h3).1).trans h3, h4⟩⟩
/-- An entry's cells. -/
def eRow (a b : Int) (k : Nat) : Array Value := #[.int .i8 (if a < b then 0 else 1), .int .i16 (k : Int), .int .i16 (if a < b then b - a else a - b)]
set_option maxRecDepth 100000 in
theorem entryFor_any (k : Nat) (hk : k < 100) (a b : Int) (ha : 0 ≤ a ∧ a ≤ 1000) (hb : 0 ≤ b ∧ b ≤ 1000) (w : World) :
    Calls Tryd.prog 37 #[.int .i64 (k : Int), .int .i16 a, .int .i16 b] w fun e w' => e = .returned (.agg (eRow a b k)) ∧ Below w.heap.size w w' := by
  obtain ⟨a1, a2⟩ := ha
  obtain ⟨b1, b2⟩ := hb
  have g1 : IntKind.i16.wrap (k : Int) = k := IntWalk.i16_in _ (by omega)
  have g2 : IntKind.i16.wrap (b - a) = b - a := IntWalk.i16_in _ (by omega)
  have g3 : IntKind.i16.wrap (a - b) = a - b := IntWalk.i16_in _ (by omega)
  unfold eRow
  by_cases hab : a < b
  · rw [if_pos hab, if_pos hab]
    go_enter Tryd.func37, Tryd.ntmps37
    go_upto_region 1 with (fail)
    obtain ⟨W, hW, M⟩ := open1 w #[.int .i8 0, .int .i16 0, .int .i16 0] 70
    rw [hW]; clear hW
    have b0 := (M.at 0 rfl).cell (i := 0) (v := .int .i8 0) rfl
    have b1 := (M.at 0 rfl).cell (i := 1) (v := .int .i16 0) rfl
    have b2 := (M.at 0 rfl).cell (i := 2) (v := .int .i16 0) rfl
    have f0 := (M.at 0 rfl).free 0
    have f1 := (M.at 0 rfl).free 1
    have f2 := (M.at 0 rfl).free 2
    go_wp2_with fail
    have M3 := M.cells 0 0 [.int .i8 0, .int .i16 (k : Int), .int .i16 (b - a)] rfl _ ((((M.at 0 rfl).set 0 _).set 1 _).set 2 _)
    exact bodyPost_ret (results_cell_row rfl _ _ w.heap.size 70 _ _ _ rfl (M3.at 0 rfl) Tryd.underlying70 rfl (by kernel_rfl)) rfl ⟨rfl, M3.below⟩
  · rw [if_neg hab, if_neg hab]
    go_enter Tryd.func37, Tryd.ntmps37
    go_upto_region 1 with (fail)
    obtain ⟨W, hW, M⟩ := open1 w #[.int .i8 0, .int .i16 0, .int .i16 0] 70
    rw [hW]; clear hW
    have b0 := (M.at 0 rfl).cell (i := 0) (v := .int .i8 0) rfl
    have b1 := (M.at 0 rfl).cell (i := 1) (v := .int .i16 0) rfl
    have b2 := (M.at 0 rfl).cell (i := 2) (v := .int .i16 0) rfl
    have f0 := (M.at 0 rfl).free 0
    have f1 := (M.at 0 rfl).free 1
    have f2 := (M.at 0 rfl).free 2
    go_wp2_with fail
    have M3 := M.cells 0 0 [.int .i8 1, .int .i16 (k : Int), .int .i16 (a - b)] rfl _ ((((M.at 0 rfl).set 0 _).set 1 _).set 2 _)
    exact bodyPost_ret (results_cell_row rfl _ _ w.heap.size 70 _ _ _ rfl (M3.at 0 rfl) Tryd.underlying70 rfl (by kernel_rfl)) rfl ⟨rfl, M3.below⟩
theorem load_i16D (b off : Nat) (n : Int) (w : World) (c : w.cell? ⟨b, off, none⟩ = some (.int .i16 n)) : (Instr.loadAt 24 (.pointer (some ⟨b, off, none⟩))).run Tryd.prog w = .ok (.int .i16 n) w := by
  simp [go_sem, c]
set_option maxRecDepth 100000 in
set_option maxHeartbeats 8000000 in
theorem changesOf_any (f g : Fd) (h1 : okF f = true) (h2 : okF g = true) (w : World) :
    Calls Tryd.prog 36 #[.agg (acells .i16 100 f.S), .agg (acells .i16 100 g.S), .func (.func 37) #[] #[]] w fun e w' => ∃ v, e = .returned v ∧
      w'.ownsRow (w.heap.size + 1 + 1) 70 3 v (diasR f g 100).length (scells ksEntry (diasR f g 100).length (rowsF (diasR f g 100))).toList ∧ Below w.heap.size w w' := by
  have HSf := Lib.hid (fun (i : Nat) (hi : i < 100) => okF_seedsD h1 hi)
  have HSg := Lib.hid (fun (i : Nat) (hi : i < 100) => okF_seedsD h2 hi)
  clear h1 h2
  obtain ⟨i0, hi, hz0, hz1, hz2⟩ := info_parts Einfo'
  go_enter Tryd.func36, Tryd.ntmps36
  go_upto_region 1 with (fail)
  obtain ⟨W, hW, M⟩ := open2 w (acells .i16 100 f.S) 25 (acells .i16 100 g.S) 25
  have hWs : W.heap.size = w.heap.size + 1 + 1 := by rw [← hW]; simp
  rw [hW]; clear hW
  have HM := Lib.hid M
  have HWS := Lib.hid hWs
  clear M hWs
  go_wp2_with fail
  go_loopw [7, 9] (fun v i wr => ∃ q : Nat, q ≤ 100 ∧ i = .int .i64 q ∧ Hid (wr.ownsRow W.heap.size 70 3 v (diasR f g q).length (scells ksEntry (diasR f g q).length (rowsF (diasR f g q))).toList) ∧ Hid (Below W.heap.size W wr)) (fun _ i _ => 100 - (intOf i).toNat)
  case atStart => exact ⟨0, by omega, rfl, Lib.hid (World.ownsRow_nil _ _ _ _), Lib.hid (Below.refl _ _)⟩
  case round =>
    obtain ⟨q, hq, rfl, hO, hB2⟩ := hrel
    by_cases hlt : q < 100
    · have hlen := diasR_le f g q
      have HM2 := Lib.hid (HM.out.call hB2.out)
      have cf := (HM2.out.at 0 rfl).cell (acells_get .i16 100 f.S q hlt)
      have cg := (HM2.out.at 1 rfl).cell (acells_get .i16 100 g.S q hlt)
      have hq1 : (q : Int) < 100 := by omega
      obtain ⟨s1, s2⟩ := HSf.out q hlt
      obtain ⟨t1, t2⟩ := HSg.out q hlt
      have ca := Lib.hid (acells_get .i16 100 f.S q hlt)
      have cb := Lib.hid (acells_get .i16 100 g.S q hlt)
      obtain ⟨a, ha⟩ : ∃ a, f.S q = a := ⟨_, rfl⟩
      obtain ⟨b, hb⟩ : ∃ b, g.S q = b := ⟨_, rfl⟩
      rw [ha] at s1 s2 cf ca
      rw [hb] at t1 t2 cg cb
      have hbs := hB2.out.size
      by_cases hab : a = b
      · have e : Hid (diasR f g (q + 1) = diasR f g q) := Lib.hid (diasR_no (by rw [ha, hb]; exact hab))
        clear ha hb
        subst hab
        go_upto_region 5 with (fail)
        go_quiet (fail)
        go_wp2_with fail
        go_roundw
        case rel => exact ⟨q + 1, by omega, by go_num, by rw [e.out]; exact hO, Lib.hid (below_drewN _ hB2.out)⟩
        case measure => simp [intOf]; omega
      · have e : Hid (diasR f g (q + 1) = diasR f g q ++ [diaR a b q]) := Lib.hid (by rw [diasR_yes (by rw [ha, hb]; omega), ha, hb])
        have hrc : Hid (rcells ksEntry (diaR a b q) = (eRow a b q).toList) := Lib.hid (by unfold rcells diaR eRow; simp [List.range_succ])
        have hne : (a != b) = true := by simpa using hab
        clear ha hb
        obtain ⟨R, hR⟩ : ∃ R, diasR f g q = R := ⟨_, rfl⟩
        rw [hR] at hO e hlen
        clear hR
        go_upto_region 5 with (fail)
        go_quiet (fail)
        go_upto_region 6 with (fail)
        have HM5 := Lib.hid (HM2.out.drewN nq)
        have hB5 := Lib.hid (below_drewN nq hB2.out)
        clear cf cg HM2
        refine wp_region_rel_tail 11 (DL [dV (u7), dV (.func (.func 37) #[] #[]), dV (.int .i64 (q : Int)), dV (.int .i64 (q : Int)), dV (.pointer (some ⟨w.heap.size, q, none⟩)), dV (.int .i16 a), dV (.int .i64 (q : Int)), dV (.pointer (some ⟨w.heap.size + 1, q, none⟩)), dV (.int .i16 b), dV (.agg (eRow a b q)), dP (fun v lo _ w9 => v = .slice (some ⟨lo, 0, none⟩) 1 1 ∧ Blk w9 lo (eRow a b q) 70)]) (fun w' => Mem w w' [⟨w.heap.size, acells .i16 100 f.S, 25⟩, ⟨w.heap.size + 1, acells .i16 100 g.S, 25⟩] ∧ w'.ownsRow W.heap.size 70 3 u7 R.length (scells ksEntry R.length (rowsF R)).toList ∧ Below W.heap.size W w') (by kernel_rfl) (by kernel_rfl) (fun _ _ h hb => ⟨h.1.call hb, owns_belowD h.2.1 hb, h.2.2.trans (hb.mono h.2.2.size)⟩)
          (stays_DL (fun d hd => by
            simp only [List.mem_cons, List.mem_nil_iff, or_false] at hd
            rcases hd with rfl | rfl | rfl | rfl | rfl | rfl | rfl | rfl | rfl | rfl | rfl <;> first | exact stay_V | exact stay_P)) ⟨HM5.out.drew, (show (World.drew _).ownsRow _ _ _ _ _ _ from hO.out), hB5.out.drew⟩ ?_
        refine rel_val _ rfl rfl (fun _ _ => rfl) (fun _ => ?_)
        simp only [Act.put, List.setIfInBounds_toArray, List.set_cons_zero, List.set_cons_succ]
        refine rel_val _ rfl rfl (fun _ _ => rfl) (fun _ => ?_)
        simp only [Act.put, List.setIfInBounds_toArray, List.set_cons_zero, List.set_cons_succ]
        refine rel_val _ rfl rfl (fun _ _ => rfl) (fun _ => ?_)
        simp only [Act.put, List.setIfInBounds_toArray, List.set_cons_zero, List.set_cons_succ]
        refine rel_val _ rfl rfl (fun _ _ => rfl) (fun _ => ?_)
        simp only [Act.put, List.setIfInBounds_toArray, List.set_cons_zero, List.set_cons_succ]
        refine rel_val (.pointer (some ⟨w.heap.size, q, none⟩)) rfl rfl (fun w' _ => by simp [execOp, go_sem]; first | done | omega | (intro h; omega)) (fun _ => ?_)
        simp only [Act.put, List.setIfInBounds_toArray, List.set_cons_zero, List.set_cons_succ]
        refine rel_cell 24 _ rfl (w.heap.size) (q) rfl (.int .i16 a) rfl rfl (fun w' c => load_i16D _ _ _ w' c) (fun w' hw' => (hw'.1.at 0 rfl).cell ca.out) (fun _ => ?_)
        simp only [Act.put, List.setIfInBounds_toArray, List.set_cons_zero, List.set_cons_succ]
        refine rel_val _ rfl rfl (fun _ _ => rfl) (fun _ => ?_)
        simp only [Act.put, List.setIfInBounds_toArray, List.set_cons_zero, List.set_cons_succ]
        refine rel_val (.pointer (some ⟨w.heap.size + 1, q, none⟩)) rfl rfl (fun w' _ => by simp [execOp, go_sem]; first | done | omega | (intro h; omega)) (fun _ => ?_)
        simp only [Act.put, List.setIfInBounds_toArray, List.set_cons_zero, List.set_cons_succ]
        refine rel_cell 24 _ rfl (w.heap.size + 1) (q) rfl (.int .i16 b) rfl rfl (fun w' c => load_i16D _ _ _ w' c) (fun w' hw' => (hw'.1.at 1 rfl).cell cb.out) (fun _ => ?_)
        simp only [Act.put, List.setIfInBounds_toArray, List.set_cons_zero, List.set_cons_succ]
        refine rel_callDyn (.agg (eRow a b q)) 37 #[.int .i64 (q : Int), .int .i16 a, .int .i16 b] rfl rfl rfl rfl rfl (enters_of Tryd.func37 (by kernel_rfl) rfl) (fun w' _ => entryFor_any q hlt a b ⟨s1, s2⟩ ⟨t1, t2⟩ w') (fun _ => ?_)
        simp only [Act.put, List.setIfInBounds_toArray, List.set_cons_zero, List.set_cons_succ]
        refine rel_runP _ rfl rfl (fun w9 _ => ⟨.slice (some ⟨w9.heap.size, 0, none⟩) 1 1, w9.alloc (.cells (eRow a b q) 70), by simp [execOp, Act.eval, go_sem, eRow], (Below.refl _ _).alloc (Nat.le_refl _) _, fun w8 hb8 => ⟨rfl, (Blk.new w9 (eRow a b q) 70).later hb8⟩⟩) (fun v4 lo4 hi4 _ ⟨_, _, hv4⟩ => ?_)
        obtain ⟨rfl, _⟩ := hv4
        simp only [Act.put, List.setIfInBounds_toArray, List.set_cons_zero, List.set_cons_succ]
        refine rel_nil (fun W6 inv => ?_)
        have M6 := inv.cls.1
        have O6 := inv.cls.2.1
        have B6 := inv.cls.2.2
        obtain ⟨_, _, _, h4⟩ := inv.fact 10 _ rfl
        have B4 := h4.1.2
        clear inv h4 HM5 hB5 hO
        change wpList _ _ _ (_ :: [_]) _ _
        obtain ⟨p9, c9, rfl⟩ := own_out O6
        go_wp2_with (at_builtin; refine wpList_append_own _ rfl _ _ 36 rfl W.heap.size 70 i0 (.agg #[.int .i8 0, .int .i16 0, .int .i16 0]) 3 6 Tryd.underlying36 hi hz0 hz1 hz2 rfl (by decide) _ _ _ rfl O6 ⟨lo4, 0, none⟩ 1 1 (eRow a b q).toList rfl rfl ?c1 ?c2 ?c3 ?c4 ?c5 ?_)
        case c1 =>
          intro j u hj
          (try rw [Addr.add_lit])
          (try rw [Nat.zero_add])
          first | exact B4.cell hj | exact B4.cell (by rw [← Array.getElem?_toList]; exact hj)
        case c2 => intro u hu; simp [eRow] at hu; rcases hu with rfl | rfl | rfl <;> rfl
        case c3 => unfold maxLen; omega
        case c4 => omega
        case c5 => exact B6.size
        intro v2 w2 ho2 hg2 _
        have C2 := Lib.hid (below_own B6 B6.size O6 hg2)
        have O2 : Hid (w2.ownsRow W.heap.size 70 3 v2 (diasR f g (q + 1)).length (scells ksEntry (diasR f g (q + 1)).length (rowsF (diasR f g (q + 1)))).toList) := Lib.hid (by rw [e.out, scells_snoc, hrc.out, List.length_append]; exact ho2)
        clear ho2 hg2
        go_wp2_with fail
        go_roundw
        case rel => exact ⟨q + 1, by omega, by go_num, O2, C2⟩
        case measure => simp [intOf]; omega
    · obtain rfl : q = 100 := by omega
      go_wp2_with fail
      go_ret
      rw [HWS.out] at hO
      exact ⟨_, rfl, hO.out, HM.out.below.trans (hB2.out.mono HM.out.below.size)⟩
set_option maxRecDepth 100000 in
set_option maxHeartbeats 8000000 in
theorem implDiaryOf (f g : Fd) (hf : f.Wf) (hg : g.Wf) (A : Nat → Addr) (w : World) (S0 : Sents w A) : Calls Tryd.prog 14 #[.agg (fcells f), .agg (fcells g)] w (DyP f g w) := by
  have S : Hid (Sents w A) := Lib.hid S0
  clear S0
  have hif := isIfaceErr
  cases h12 : okF f && okF g with
  | false =>
    have HC : Hid (dyCode f g = 1) := Lib.hid (by unfold dyCode; rw [h12]; rfl)
    have HOK := Lib.hid h12
    clear h12
    have ok1 : True := trivial
    have ok2 : True := trivial
    have ok3 : True := trivial
    have ok4 : True := trivial
    have ok5 : True := trivial
    have ok6 : True := trivial
    go_enter Tryd.func14, Tryd.ntmps14
    go_upto_region 1 with (fail)
    obtain ⟨W, hW, M⟩ := open2 w (fcells f) 31 (fcells g) 31
    rw [hW]; clear hW
    go_wp2_with (first
      | (clear ok1; refine wpList_load_part rfl 31 _ rfl w.heap.size 0 rfl (fcells f) _ (M.at 0 rfl).whole Tryd.underlying31 rfl (by rw [fcells_size]; exact sizeFd) ?_)
      | (clear ok2; refine wpList_load_part rfl 31 _ rfl (w.heap.size + 1) 0 rfl (fcells g) _ (M.at 1 rfl).whole Tryd.underlying31 rfl (by rw [fcells_size]; exact sizeFd) ?_)
      | (refine wpList_buildTwoD rfl 88 31 _ _ rfl (fcells f) (fcells g) rfl rfl (by rw [fcells_size, fcells_size]) Tryd.underlying88 (by rw [fcells_size]; exact sizeFd) (by rw [fcells_size]; kernel_rfl) (by rw [fcells_size]; omega) (by rw [fcells_size]; omega) ?_)
      | (go_at_call 31; refine (checkFields2 f g hf hg A _ _ _ (Blk.new _ (pcells f g) _) (S.out.later (M.alloc _ _).below).one).mono ?_; rintro e W2 ⟨rfl, hb⟩; rw [HOK.out, errIf_false]; have M2 := (M.alloc _ _).call hb; have hv4 := (S.out.later M2.below).v4; have a0 := (M2.at 0 rfl).cell (fcells_0 f); have a1 := (M2.at 0 rfl).cell (fcells_1 f); have b0 := (M2.at 1 rfl).cell (fcells_0 g); have b1 := (M2.at 1 rfl).cell (fcells_1 g); clear hb)
      | (go_at_call 32; refine (codeOf_err A 1 (by omega) (by omega) _ (S.out.later M2.below)).mono ?_; rintro e W3 ⟨rfl, rfl⟩))
    go_ret2
    exact dyP_bad HC.out (by decide) _ _ M2.below
  | true =>
  have HOK := Lib.hid h12
  have h1 : okF f = true := by simp only [Bool.and_eq_true] at h12; exact h12.1
  have h2 : okF g = true := by simp only [Bool.and_eq_true] at h12; exact h12.2
  have H1 := Lib.hid h1
  have H2 := Lib.hid h2
  by_cases hW0 : f.W = g.W
  case neg =>
    have HC : Hid (dyCode f g = 4) := Lib.hid (by unfold dyCode; rw [h12]; simp [sameD, hW0])
    have hWn : (f.W != g.W) = true := by simpa using hW0
    clear h1 h2 h12
    have ok1 : True := trivial
    have ok2 : True := trivial
    have ok3 : True := trivial
    have ok4 : True := trivial
    have ok5 : True := trivial
    have ok6 : True := trivial
    go_enter Tryd.func14, Tryd.ntmps14
    go_upto_region 1 with (fail)
    obtain ⟨W, hW, M⟩ := open2 w (fcells f) 31 (fcells g) 31
    rw [hW]; clear hW
    go_wp2_with (first
      | (clear ok1; refine wpList_load_part rfl 31 _ rfl w.heap.size 0 rfl (fcells f) _ (M.at 0 rfl).whole Tryd.underlying31 rfl (by rw [fcells_size]; exact sizeFd) ?_)
      | (clear ok2; refine wpList_load_part rfl 31 _ rfl (w.heap.size + 1) 0 rfl (fcells g) _ (M.at 1 rfl).whole Tryd.underlying31 rfl (by rw [fcells_size]; exact sizeFd) ?_)
      | (refine wpList_buildTwoD rfl 88 31 _ _ rfl (fcells f) (fcells g) rfl rfl (by rw [fcells_size, fcells_size]) Tryd.underlying88 (by rw [fcells_size]; exact sizeFd) (by rw [fcells_size]; kernel_rfl) (by rw [fcells_size]; omega) (by rw [fcells_size]; omega) ?_)
      | (go_at_call 31; refine (checkFields2 f g hf hg A _ _ _ (Blk.new _ (pcells f g) _) (S.out.later (M.alloc _ _).below).one).mono ?_; rintro e W2 ⟨rfl, hb⟩; rw [HOK.out, errIf_true]; have M2 := (M.alloc _ _).call hb; have hv4 := (S.out.later M2.below).v4; have a0 := (M2.at 0 rfl).cell (fcells_0 f); have a1 := (M2.at 0 rfl).cell (fcells_1 f); have b0 := (M2.at 1 rfl).cell (fcells_0 g); have b1 := (M2.at 1 rfl).cell (fcells_1 g); clear hb)
      | (go_at_call 32; refine (codeOf_err A 4 (by omega) (by omega) _ (S.out.later M2.below)).mono ?_; rintro e W3 ⟨rfl, rfl⟩))
    go_ret2
    exact dyP_bad HC.out (by decide) _ _ M2.below
  by_cases hH0 : f.H = g.H
  case neg =>
    have HC : Hid (dyCode f g = 4) := Lib.hid (by unfold dyCode; rw [h12]; simp [sameD, hH0])
    have hHn : (f.H != g.H) = true := by simpa using hH0
    have hWn : (f.W != g.W) = false := by simpa using hW0
    clear h1 h2 h12
    have ok1 : True := trivial
    have ok2 : True := trivial
    have ok3 : True := trivial
    have ok4 : True := trivial
    have ok5 : True := trivial
    have ok6 : True := trivial
    go_enter Tryd.func14, Tryd.ntmps14
    go_upto_region 1 with (fail)
    obtain ⟨W, hW, M⟩ := open2 w (fcells f) 31 (fcells g) 31
    rw [hW]; clear hW
    go_wp2_with (first
      | (clear ok1; refine wpList_load_part rfl 31 _ rfl w.heap.size 0 rfl (fcells f) _ (M.at 0 rfl).whole Tryd.underlying31 rfl (by rw [fcells_size]; exact sizeFd) ?_)
      | (clear ok2; refine wpList_load_part rfl 31 _ rfl (w.heap.size + 1) 0 rfl (fcells g) _ (M.at 1 rfl).whole Tryd.underlying31 rfl (by rw [fcells_size]; exact sizeFd) ?_)
      | (refine wpList_buildTwoD rfl 88 31 _ _ rfl (fcells f) (fcells g) rfl rfl (by rw [fcells_size, fcells_size]) Tryd.underlying88 (by rw [fcells_size]; exact sizeFd) (by rw [fcells_size]; kernel_rfl) (by rw [fcells_size]; omega) (by rw [fcells_size]; omega) ?_)
      | (go_at_call 31; refine (checkFields2 f g hf hg A _ _ _ (Blk.new _ (pcells f g) _) (S.out.later (M.alloc _ _).below).one).mono ?_; rintro e W2 ⟨rfl, hb⟩; rw [HOK.out, errIf_true]; have M2 := (M.alloc _ _).call hb; have hv4 := (S.out.later M2.below).v4; have a0 := (M2.at 0 rfl).cell (fcells_0 f); have a1 := (M2.at 0 rfl).cell (fcells_1 f); have b0 := (M2.at 1 rfl).cell (fcells_0 g); have b1 := (M2.at 1 rfl).cell (fcells_1 g); clear hb)
      | (go_at_call 32; refine (codeOf_err A 4 (by omega) (by omega) _ (S.out.later M2.below)).mono ?_; rintro e W3 ⟨rfl, rfl⟩))
    go_ret2
    exact dyP_bad HC.out (by decide) _ _ M2.below
  have hHn : (f.H != g.H) = false := by simpa using hH0
  have hWn : (f.W != g.W) = false := by simpa using hW0
  cases hK : rowEq 100 f.K g.K with
  | false =>
    have HC : Hid (dyCode f g = 4) := Lib.hid (by unfold dyCode; rw [h12]; simp [sameD, hK])
    have HK := Lib.hid hK
    clear h1 h2 h12 hK
    have ok1 : True := trivial
    have ok2 : True := trivial
    have ok3 : True := trivial
    have ok4 : True := trivial
    have ok5 : True := trivial
    have ok6 : True := trivial
    go_enter Tryd.func14, Tryd.ntmps14
    go_upto_region 1 with (fail)
    obtain ⟨W, hW, M⟩ := open2 w (fcells f) 31 (fcells g) 31
    rw [hW]; clear hW
    go_wp2_with (first
      | (clear ok1; refine wpList_load_part rfl 31 _ rfl w.heap.size 0 rfl (fcells f) _ (M.at 0 rfl).whole Tryd.underlying31 rfl (by rw [fcells_size]; exact sizeFd) ?_)
      | (clear ok2; refine wpList_load_part rfl 31 _ rfl (w.heap.size + 1) 0 rfl (fcells g) _ (M.at 1 rfl).whole Tryd.underlying31 rfl (by rw [fcells_size]; exact sizeFd) ?_)
      | (refine wpList_buildTwoD rfl 88 31 _ _ rfl (fcells f) (fcells g) rfl rfl (by rw [fcells_size, fcells_size]) Tryd.underlying88 (by rw [fcells_size]; exact sizeFd) (by rw [fcells_size]; kernel_rfl) (by rw [fcells_size]; omega) (by rw [fcells_size]; omega) ?_)
      | (go_at_call 31; refine (checkFields2 f g hf hg A _ _ _ (Blk.new _ (pcells f g) _) (S.out.later (M.alloc _ _).below).one).mono ?_; rintro e W2 ⟨rfl, hb⟩; rw [HOK.out, errIf_true]; have M2 := (M.alloc _ _).call hb; have hv4 := (S.out.later M2.below).v4; have a0 := (M2.at 0 rfl).cell (fcells_0 f); have a1 := (M2.at 0 rfl).cell (fcells_1 f); have b0 := (M2.at 1 rfl).cell (fcells_0 g); have b1 := (M2.at 1 rfl).cell (fcells_1 g); clear hb)
      | (clear ok3; refine wpList_load_wanted rfl 23 _ rfl w.heap.size 2 rfl (acells .u8 100 f.K) _ (M2.at 0 rfl).kinds Tryd.underlying23 rfl (by rw [acells_size]; exact sizeK) ?_)
      | (clear ok4; refine wpList_load_wanted rfl 23 _ rfl (w.heap.size + 1) 2 rfl (acells .u8 100 g.K) _ (M2.at 1 rfl).kinds Tryd.underlying23 rfl (by rw [acells_size]; exact sizeK) ?_)
      | (refine wpList_neq_wanted rfl 23 _ _ _ rfl (acells .u8 100 f.K) (acells .u8 100 g.K) rfl rfl (by kernel_rfl) (rowEq 100 f.K g.K) (run_equalIn_kindsD f.K g.K hf.K hg.K _) ?_; rw [HK.out])
      | (go_at_call 32; refine (codeOf_err A 4 (by omega) (by omega) _ (S.out.later M2.below)).mono ?_; rintro e W3 ⟨rfl, rfl⟩))
    go_ret2
    exact dyP_bad HC.out (by decide) _ _ M2.below
  | true =>
    have HC : Hid (dyCode f g = 0) := Lib.hid (by unfold dyCode; rw [h12]; simp [sameD, hW0, hH0, hK])
    have HK := Lib.hid hK
    clear h1 h2 h12 hK
    have ok1 : True := trivial
    have ok2 : True := trivial
    have ok3 : True := trivial
    have ok4 : True := trivial
    have ok5 : True := trivial
    have ok6 : True := trivial
    go_enter Tryd.func14, Tryd.ntmps14
    go_upto_region 1 with (fail)
    obtain ⟨W, hW, M⟩ := open2 w (fcells f) 31 (fcells g) 31
    rw [hW]; clear hW
    go_wp2_with (first
      | (clear ok1; refine wpList_load_part rfl 31 _ rfl w.heap.size 0 rfl (fcells f) _ (M.at 0 rfl).whole Tryd.underlying31 rfl (by rw [fcells_size]; exact sizeFd) ?_)
      | (clear ok2; refine wpList_load_part rfl 31 _ rfl (w.heap.size + 1) 0 rfl (fcells g) _ (M.at 1 rfl).whole Tryd.underlying31 rfl (by rw [fcells_size]; exact sizeFd) ?_)
      | (refine wpList_buildTwoD rfl 88 31 _ _ rfl (fcells f) (fcells g) rfl rfl (by rw [fcells_size, fcells_size]) Tryd.underlying88 (by rw [fcells_size]; exact sizeFd) (by rw [fcells_size]; kernel_rfl) (by rw [fcells_size]; omega) (by rw [fcells_size]; omega) ?_)
      | (go_at_call 31; refine (checkFields2 f g hf hg A _ _ _ (Blk.new _ (pcells f g) _) (S.out.later (M.alloc _ _).below).one).mono ?_; rintro e W2 ⟨rfl, hb⟩; rw [HOK.out, errIf_true]; have M2 := (M.alloc _ _).call hb; have hv4 := (S.out.later M2.below).v4; have a0 := (M2.at 0 rfl).cell (fcells_0 f); have a1 := (M2.at 0 rfl).cell (fcells_1 f); have b0 := (M2.at 1 rfl).cell (fcells_0 g); have b1 := (M2.at 1 rfl).cell (fcells_1 g); clear hb)
      | (clear ok3; refine wpList_load_wanted rfl 23 _ rfl w.heap.size 2 rfl (acells .u8 100 f.K) _ (M2.at 0 rfl).kinds Tryd.underlying23 rfl (by rw [acells_size]; exact sizeK) ?_)
      | (clear ok4; refine wpList_load_wanted rfl 23 _ rfl (w.heap.size + 1) 2 rfl (acells .u8 100 g.K) _ (M2.at 1 rfl).kinds Tryd.underlying23 rfl (by rw [acells_size]; exact sizeK) ?_)
      | (refine wpList_neq_wanted rfl 23 _ _ _ rfl (acells .u8 100 f.K) (acells .u8 100 g.K) rfl rfl (by kernel_rfl) (rowEq 100 f.K g.K) (run_equalIn_kindsD f.K g.K hf.K hg.K _) ?_; rw [HK.out])
      | (clear ok5; refine wpList_load_part rfl 25 _ rfl w.heap.size 102 rfl (acells .i16 100 f.S) _ (M2.at 0 rfl).seeds Tryd.underlying25 rfl (by rw [acells_size]; exact sizeS) ?_)
      | (clear ok6; refine wpList_load_part rfl 25 _ rfl (w.heap.size + 1) 102 rfl (acells .i16 100 g.S) _ (M2.at 1 rfl).seeds Tryd.underlying25 rfl (by rw [acells_size]; exact sizeS) ?_)
      | (go_at_call 36; refine (changesOf_any f g H1.out H2.out _).mono ?_; rintro e W4 ⟨v, rfl, ho, hb⟩; have M4 := M2.call hb; have hb2 := M2.below.size; clear hb M2))
    go_ret2
    exact dyP_ok HC.out rfl _ (Nat.le_trans hb2 (by omega)) ho M4.below
end Go.Proofs.YtddbpbibjiahgaaDoor
