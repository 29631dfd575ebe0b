/-
  Fields rearranged: the program's way.
-/
import Derived.Test.YtljlbdnlcibhfaaDoorArr
import Derived.Test.YtljlbdnlcibhfaaDoorRegIn
import Derived.Test.YtljlbdnlcibhfaaDoorRegM
import Derived.Test.YtljlbdnlcibhfaaDoorRelC
import Derived.Test.YtljlbdnlcibhfaaDoorSquare
import Derived.Test.YtljlbdnlcibhfaaDoorChk
import Derived.BigRegionIn
namespace Go.Proofs.YtljlbdnlcibhfaaDoor
open Go Go.RowKit Go.Shelf
attribute [local go_sem] Oper.semAt_some

/-- A call of a closure that a slot holds. -/
theorem run_callDyn {P : Program} {o : Oper} {a : Act} {f : FuncId} {t : Operand} {caps : Array Value} {xs : Array Operand} {tys : Array TypeId} (ho : o.op = .call { callee := .value t, args := xs, argTypes := tys }) (ht : a.eval t = .func (.func f) #[] caps) (vs : Array Value) (hvs : xs.toList.map a.eval ++ caps.toList = vs.toList)
    (he : ∀ (args : Array Value) (w : World), (callFunc f args).run P w = .ok (.enter f args) w) (w : World) : (execOp a.eval o).run P w = .ok (.enter f vs) w := by
  obtain rfl : xs.map a.eval ++ caps = vs := Array.ext' (by rw [Array.toList_append, Array.toList_map]; exact hvs)
  unfold execOp
  simp only [ho, resolve, ht]
  simp [go_sem, invoke, he]
section
variable {P : Program} {ops : Array Oper} {C : World → Prop} {l : List OpD} {Q : Act → Left → Prop} {o : Oper} {rest : List Oper} {k : Nat} {a : Act} {g : Left}
theorem rel_callDyn (v0 : Value) (f : FuncId) (args : Array Value) (hl : l[k]? = some (dV v0)) (hw : Region.wanted o (yielded ops a.tmps) = true) {t : Operand} {caps : Array Value} {xs : Array Operand} {tys : Array TypeId} (ho : o.op = .call { callee := .value t, args := xs, argTypes := tys }) (ht : a.eval t = .func (.func f) #[] caps) (hvs : xs.toList.map a.eval ++ caps.toList = args.toList) (he : ∀ (args : Array Value) (w : World), (callFunc f args).run P w = .ok (.enter f args) w)
    (hc : ∀ w, C w → Calls P f args w (fun e w' => e = .returned v0 ∧ Below w.heap.size w w'))
    (h2 : ∀ x, wpRel P ops C (DL l) Q rest (k + 1) (a.put o.dst v0) (g.upd k x)) : wpRel P ops C (DL l) Q (o :: rest) k a g :=
  rel_step hw (goes_call f args (fun w _ => run_callDyn ho ht args hvs he w) (fun w hw' => (hc w hw').mono (fun e w' h => ⟨v0, h.1, h.2, by rw [DL_at hl]; rfl⟩))) (fun v lo hi _ ⟨w, _, h⟩ => by rw [DL_at hl] at h; cases h; exact h2 _)
end
theorem load_fn2 (b off : Nat) (f : FuncId) (caps : Array Value) (w : World) (c : w.cell? ⟨b, off, none⟩ = some (.func (.func f) #[] caps)) : (Instr.loadAt 71 (.pointer (some ⟨b, off, none⟩))).run Tryd.prog w = .ok (.func (.func f) #[] caps) w := by
  simp [go_sem, c]

/-- Some cells taken. -/
def arrL (f : Fd) (a b : Int) (q : Nat → Nat) (l : List (CellOf (Fd.bare a b))) : Fd := l.foldl (fun g c => turned g c.1 (f.K (q c.1)) (f.S (q c.1))) (Fd.bare a b)
theorem arrL_snoc (f : Fd) (a b : Int) (q : Nat → Nat) (l : List (CellOf (Fd.bare a b))) (c : CellOf (Fd.bare a b)) : arrL f a b q (l ++ [c]) = turned (arrL f a b q l) c.1 (f.K (q c.1)) (f.S (q c.1)) := by simp [arrL, List.foldl_append]
theorem arrL_to (f : Fd) (a b : Int) (q : Nat → Nat) : ∀ n, fcells (arrL f a b q (cellsTo (Fd.bare a b) n)) = fcells (arr f a b q n)
  | 0 => arr_zero f a b q
  | n + 1 => by
    have ih := fcells_inj (arrL_to f a b q n)
    cases h : isCell (Fd.bare a b) n with
    | true =>
      rw [cellsTo_yes h, arrL_snoc, ← arr_yes h]
      exact fcells_congr ih.1 ih.2.1 (fun i hi => by
        simp only [turned, Fd.setK, Fd.setS]
        by_cases e : i = n
        · subst e; simp
        · rw [if_neg e, if_neg e, ih.2.2.1 i hi]) (fun i hi => by
        simp only [turned, Fd.setK, Fd.setS]
        by_cases e : i = n
        · subst e; simp
        · rw [if_neg e, if_neg e, ih.2.2.2 i hi])
    | false => rw [cellsTo_no h, ← arr_no h]; exact arrL_to f a b q n
set_option maxRecDepth 100000 in
set_option maxHeartbeats 8000000 in
theorem rearranged_any (f : Fd) (a b : Int) (ha : 0 ≤ a ∧ a ≤ 10) (hb : 0 ≤ b ∧ b ≤ 10) (fc : FuncId) (eb : Nat) (ev : Value) (q : Nat → Nat) (hq : ∀ k : Nat, isCell (Fd.bare a b) k = true → q k < 100)
    (hent : ∀ (args : Array Value) (w : World), (callFunc fc args).run Tryd.prog w = .ok (.enter fc args) w)
    (hcl : ∀ (k : Nat) (w' : World), isCell (Fd.bare a b) k = true → w'.cell? ⟨eb, 0, none⟩ = some ev → Calls Tryd.prog fc #[.int .i64 ((k : Int) % 10), .int .i64 ((k : Int) / 10), .pointer (some ⟨eb, 0, none⟩)] w' fun e w2 => e = .returned (.int .i64 (q k)) ∧ Below w'.heap.size w' w2)
    (w : World) (he : w.cell? ⟨eb, 0, none⟩ = some ev) :
    Calls Tryd.prog 51 #[.agg (fcells f), .int .i8 a, .int .i8 b, .func (.func fc) #[] #[.pointer (some ⟨eb, 0, none⟩)]] w fun e w' => e = .returned (.agg (fcells (arr f a b q 100))) ∧ Below w.heap.size w w' := by
  have hz : Hid (Tryd.zeroCells27.size = 202) := Lib.hid (by rw [zeroFd, fcells_size])
  have HE := Lib.hid he
  have HCL := Lib.hid hcl
  have HQ := Lib.hid hq
  have HENT := Lib.hid hent
  clear he hcl hq hent
  obtain ⟨ha1, ha2⟩ := ha
  obtain ⟨hb1, hb2⟩ := hb
  have hdep : Fence.wide.depth.isSome = false := rfl
  have hfn : ∀ k, Fence.wide.fn k := fun _ => trivial
  refine (callsIn_wide (n := 3)).1 ?_
  refine callsIn_of_wp_marks Tryd.func51 rfl trivial ?_ rfl
  simp only [Tryd.ntmps51, List.size_toArray, List.length_cons, List.length_nil, Nat.reduceAdd, Nat.reduceSub, Array.replicate_succ, Array.replicate_zero, List.push_toArray, List.append_toArray, List.nil_append, List.cons_append]
  gi_upto_region 1 with (fail)
  obtain ⟨W, hW, M⟩ := open3 w (fcells f) 27 #[.func (.func fc) #[] #[.pointer (some ⟨eb, 0, none⟩)]] 71 Tryd.zeroCells27 27
  rw [hW]; clear hW
  gi_upto_region 2 with (first
    | (refine buildIn hfn rfl 27 _ rfl #[(0, .int .i8 a), (1, .int .i8 b)] rfl (.agg (fcells (Fd.bare a b))) (by kernel_rfl) ?_)
    | (refine storeIn hfn rfl 27 _ _ rfl W.heap.size 0 (fcells (Fd.bare a b)) rfl rfl (((M.alloc Tryd.zeroCells27 27).at 3 rfl).there 0 _ (by rw [fcells_size, hz.out]; omega)) (by rw [fcells_size]; exact sizeFd) (fcells_one _) ?_))
  obtain ⟨ob, hob⟩ : ∃ ob, ob = W.heap.size := ⟨_, rfl⟩
  have M3 := (M.alloc Tryd.zeroCells27 27).cells 3 0 (fcells (Fd.bare a b)).toList rfl (fcells (Fd.bare a b)) (((M.alloc Tryd.zeroCells27 27).at 3 rfl).over (fcells (Fd.bare a b)) (by rw [fcells_size, hz.out]))
  rw [← hob] at M3 ⊢
  clear hob M
  generalize World.setCells _ _ _ _ = W3 at M3 ⊢
  have M3' : Mem w W3 [⟨w.heap.size, fcells f, 27⟩, ⟨w.heap.size + 1, #[.func (.func fc) #[] #[.pointer (some ⟨eb, 0, none⟩)]], 71⟩, ⟨w.heap.size + 1 + 1, Tryd.zeroCells27, 27⟩, ⟨ob, fcells (arrL f a b q []), 27⟩] := M3
  clear M3
  gi_wp2_with (first
    | (refine loadIn hfn rfl 27 _ rfl ob 0 rfl (fcells (Fd.bare a b)) _ (M3'.at 3 rfl).whole Tryd.underlying27 rfl (by rw [fcells_size]; exact sizeFd) ?_)
    | (gi_at_call 32; refine (callsIn_wide.2 (cellsIn_any (Fd.bare a b) _)).mono ?_; rintro e w' ⟨rfl, rfl⟩))
  obtain ⟨bi, hbi⟩ : ∃ bi, bi = W3.heap.size := ⟨_, rfl⟩
  have M4 : Mem w (W3.alloc (Obj.cells (fcells (Fd.bare a b)) 27)) [⟨w.heap.size, fcells f, 27⟩, ⟨w.heap.size + 1, #[.func (.func fc) #[] #[.pointer (some ⟨eb, 0, none⟩)]], 71⟩, ⟨w.heap.size + 1 + 1, Tryd.zeroCells27, 27⟩, ⟨ob, fcells (arrL f a b q []), 27⟩, ⟨bi, fcells (Fd.bare a b), 27⟩] := by rw [hbi]; exact M3'.alloc (fcells (Fd.bare a b)) 27
  generalize W3.alloc _ = W4 at M4 ⊢
  rw [← hbi]
  clear hbi M3'
  have hsz : w.heap.size ≤ W4.heap.size := M4.below.size
  refine wpIn_rangeFunc_ownF rfl (by omega) (gf := 57) (lb := #[.pointer (some ⟨bi, 0, none⟩)]) rfl trivial (enters_of Tryd.func57 (by kernel_rfl) rfl)
    (cells_stops 2 bi (Fd.bare a b) ⟨ha1, ha2⟩ ⟨hb1, hb2⟩ W4 (M4.at 4 rfl)) (fun h k => k.trans h)
    (fun W l o o' hl ho hc _ => World.putObj_heap_other (fun e => by
      have := (M4.at 4 rfl).lt
      omega))
    (Below.refl _ _) (fun _ => rfl)
    (fun pre W => Mem w W [⟨w.heap.size, fcells f, 27⟩, ⟨w.heap.size + 1, #[.func (.func fc) #[] #[.pointer (some ⟨eb, 0, none⟩)]], 71⟩, ⟨w.heap.size + 1 + 1, Tryd.zeroCells27, 27⟩, ⟨ob, fcells (arrL f a b q pre), 27⟩, ⟨bi, fcells (Fd.bare a b), 27⟩])
    (fun _ _ _ => False)
    (fun s A B row hs hg hr => hs.grown hsz hg hr)
    (fun c s A B row hs hg hr => hs)
    M4
    (fun x => { tmps := #[.agg (fcells f), .int .i8 a, .int .i8 b, .func (.func fc) #[] #[.pointer (some ⟨eb, 0, none⟩)], .pointer (some ⟨w.heap.size, 0, none⟩), undef, undef, .pointer (some ⟨w.heap.size + 1, 0, none⟩), .pointer (some ⟨w.heap.size + 1 + 1, 0, none⟩), .pointer (some ⟨ob, 0, none⟩), .int .i64 (x.1 : Int), .int .i8 a, .int .i8 b, .agg ((Tryd.zeroCells27.setIfInBounds 0 (.int .i8 a)).setIfInBounds 1 (.int .i8 b)), .agg (fcells (Fd.bare a b)), .func (.func 57) #[] #[.pointer (some ⟨bi, 0, none⟩)], .int .i64 (x.1 : Int), undef, undef, undef, undef, undef, undef, undef, undef, undef, undef, undef, undef], defers := [] }) ?assign ?body ?done ?stop
  case assign =>
    intro l x W K hK
    gi_wp2
    exact hK
  case body =>
    rintro l pre x W5 M5 _
    have hfn' : ∀ k, (Fence.wide.inRound l).fn k := fun _ => trivial
    have hdep' : (Fence.wide.inRound l).depth.isSome = false := rfl
    have hx := isCell_lt x.2
    have hqx := HQ.out x.1 x.2
    gi_wp2
    refine wpIn_region_rel_tail 11 (DL [dV (.agg (fcells (arrL f a b q pre))), dV (.int .i64 (x.1 : Int)), dV (.agg (fcells f)), dV (.func (.func fc) #[] #[.pointer (some ⟨eb, 0, none⟩)]), dV (.int .i64 (x.1 : Int)), dV (.tuple #[.int .i64 ((x.1 : Int) % 10), .int .i64 ((x.1 : Int) / 10)]), dV (.int .i64 ((x.1 : Int) % 10)), dV (.int .i64 ((x.1 : Int) / 10)), dV (.int .i64 (q x.1 : Int)), dV (.agg #[.int .u8 (f.K (q x.1)), .int .i16 (f.S (q x.1))]), dV (.agg (fcells (turned (arrL f a b q pre) x.1 (f.K (q x.1)) (f.S (q x.1)))))]) (fun w' => Mem w w' [⟨w.heap.size, fcells f, 27⟩, ⟨w.heap.size + 1, #[.func (.func fc) #[] #[.pointer (some ⟨eb, 0, none⟩)]], 71⟩, ⟨w.heap.size + 1 + 1, Tryd.zeroCells27, 27⟩, ⟨ob, fcells (arrL f a b q pre), 27⟩, ⟨bi, fcells (Fd.bare a b), 27⟩] ∧ Below W5.heap.size W5 w') hfn' hdep' (by kernel_rfl) (fun f' args w' R h => CallsIn.inRound l (callsIn_wide.2 h)) (by kernel_rfl) (by kernel_rfl) grows_memB
      (stays_DL (fun d hd => by
        simp only [List.mem_cons, List.mem_nil_iff, or_false] at hd
        rcases hd with rfl | rfl | rfl | rfl | rfl | rfl | rfl | rfl | rfl | rfl | rfl <;> exact stay_V)) ⟨M5.drew, (Below.refl _ _).drew⟩ ?_
    refine rel_load 27 _ rfl ob 0 rfl (fcells (arrL f a b q pre)) _ rfl rfl (fun w' hw' => (hw'.1.at 3 rfl).whole) Tryd.underlying27 rfl (by rw [fcells_size]; exact sizeFd) (fun _ => ?_)
    simp only [Act.put, List.setIfInBounds_toArray, List.set_cons_zero, List.set_cons_succ]
    refine rel_val (.int .i64 (x.1 : Int)) rfl rfl (fun _ _ => rfl) (fun _ => ?_)
    simp only [Act.put, List.setIfInBounds_toArray, List.set_cons_zero, List.set_cons_succ]
    refine rel_load 27 _ rfl w.heap.size 0 rfl (fcells f) _ rfl rfl (fun w' hw' => (hw'.1.at 0 rfl).whole) Tryd.underlying27 rfl (by rw [fcells_size]; exact sizeFd) (fun _ => ?_)
    simp only [Act.put, List.setIfInBounds_toArray, List.set_cons_zero, List.set_cons_succ]
    refine rel_cell 71 _ rfl (w.heap.size + 1) 0 rfl (.func (.func fc) #[] #[.pointer (some ⟨eb, 0, none⟩)]) rfl rfl (fun w' c => load_fn2 _ _ _ _ w' c) (fun w' hw' => (hw'.1.at 1 rfl).cell (i := 0) rfl) (fun _ => ?_)
    simp only [Act.put, List.setIfInBounds_toArray, List.set_cons_zero, List.set_cons_succ]
    refine rel_val (.int .i64 (x.1 : Int)) rfl rfl (fun _ _ => rfl) (fun _ => ?_)
    simp only [Act.put, List.setIfInBounds_toArray, List.set_cons_zero, List.set_cons_succ]
    refine rel_call _ 60 #[.int .i64 (x.1 : Int)] rfl rfl rfl rfl (enters_of Tryd.func60 (by kernel_rfl) rfl) (fun w' _ => (placeOf_nat x.1 hx w').mono (fun e w2 h => ⟨h.1, by rw [h.2]; exact Below.refl _ _⟩)) (fun _ => ?_)
    simp only [Act.put, List.setIfInBounds_toArray, List.set_cons_zero, List.set_cons_succ]
    refine rel_val (.int .i64 ((x.1 : Int) % 10)) rfl rfl (fun _ _ => rfl) (fun _ => ?_)
    simp only [Act.put, List.setIfInBounds_toArray, List.set_cons_zero, List.set_cons_succ]
    refine rel_val (.int .i64 ((x.1 : Int) / 10)) rfl rfl (fun _ _ => rfl) (fun _ => ?_)
    simp only [Act.put, List.setIfInBounds_toArray, List.set_cons_zero, List.set_cons_succ]
    refine rel_callDyn _ fc #[.int .i64 ((x.1 : Int) % 10), .int .i64 ((x.1 : Int) / 10), .pointer (some ⟨eb, 0, none⟩)] rfl rfl rfl rfl rfl HENT.out (fun w' hw' => HCL.out x.1 w' x.2 (cell_later HE.out hw'.1.below)) (fun _ => ?_)
    simp only [Act.put, List.setIfInBounds_toArray, List.set_cons_zero, List.set_cons_succ]
    refine rel_call _ 62 #[.agg (fcells f), .int .i64 (q x.1 : Int)] rfl rfl rfl rfl (enters_of Tryd.func62 (by kernel_rfl) rfl) (fun w' _ => spotAt_any f (q x.1) hqx w') (fun _ => ?_)
    simp only [Act.put, List.setIfInBounds_toArray, List.set_cons_zero, List.set_cons_succ]
    refine rel_call _ 61 #[.agg (fcells (arrL f a b q pre)), .int .i64 (x.1 : Int), .agg #[.int .u8 (f.K (q x.1)), .int .i16 (f.S (q x.1))]] rfl rfl rfl rfl (enters_of Tryd.func61 (by kernel_rfl) rfl) (fun w' _ => withSpot_any (arrL f a b q pre) x.1 hx (f.K (q x.1)) (f.S (q x.1)) w') (fun _ => ?_)
    simp only [Act.put, List.setIfInBounds_toArray, List.set_cons_zero, List.set_cons_succ]
    refine rel_nil (fun w' inv => ?_)
    have M6 := inv.cls.1
    have B6 := inv.cls.2
    clear inv
    change wpListIn _ _ _ _ _ (_ :: []) _ _
    refine storeIn hfn' rfl 27 _ _ rfl ob 0 (fcells (turned (arrL f a b q pre) x.1 (f.K (q x.1)) (f.S (q x.1)))) rfl rfl ((M6.at 3 rfl).there 0 _ (by simp only [fcells_size]; omega)) (by rw [fcells_size]; exact sizeFd) (fcells_one _) ?_
    gi_wp2
    have M8 := M6.cells 3 0 (fcells (turned (arrL f a b q pre) x.1 (f.K (q x.1)) (f.S (q x.1)))).toList rfl (fcells (turned (arrL f a b q pre) x.1 (f.K (q x.1)) (f.S (q x.1)))) ((M6.at 3 rfl).over (fcells (turned (arrL f a b q pre) x.1 (f.K (q x.1)) (f.S (q x.1)))) (by simp only [fcells_size]))
    exact ⟨(KeepsOthers.of_below B6).trans (keeps_setCells _ _ _ _), M5.same M8 4 4 rfl rfl, by show Mem w _ _; rw [arrL_snoc]; exact M8⟩
  case done =>
    rintro D xs W5 hD rfl M5 hK
    rw [arrL_to f a b q 100] at M5
    have M6 := M5.cells 2 0 (fcells (arr f a b q 100)).toList rfl (fcells (arr f a b q 100)) ((M5.at 2 rfl).over (fcells (arr f a b q 100)) (by rw [fcells_size, hz.out]))
    have hK6 : (W5.setCells (w.heap.size + 1 + 1) 0 (fcells (arr f a b q 100)).toList).heap[D]? = some (.deferred (some [])) := by
      have hne : D ≠ w.heap.size + 1 + 1 := fun e => by
        have h := M5.at 2 rfl
        rw [e] at hK
        rw [show W5.heap[w.heap.size + 1 + 1]? = _ from h] at hK
        cases hK
      rw [look_cells_other _ _ hne]; exact hK
    gi_wp2_with (first
      | (refine loadIn hfn rfl 27 _ rfl ob 0 rfl (fcells (arr f a b q 100)) _ (M5.at 3 rfl).whole Tryd.underlying27 rfl (by rw [fcells_size]; exact sizeFd) ?_)
      | (refine storeIn hfn rfl 27 _ _ rfl (w.heap.size + 1 + 1) 0 (fcells (arr f a b q 100)) rfl rfl ((M5.at 2 rfl).there 0 _ (by rw [fcells_size, hz.out]; omega)) (by rw [fcells_size]; exact sizeFd) (fcells_one _) ?_))
    refine ⟨by simp, .inl ⟨_, _, rfl, run_takeDeferred hK6, ?_⟩⟩
    have M7 := M6.taken (o' := .deferred none) (Nat.le_trans hsz hD) hK6 rfl
    exact ⟨_, results_cell_row rfl _ _ (w.heap.size + 1 + 1) 27 _ _ _ rfl (M7.at 2 rfl) Tryd.underlying27 rfl (by rw [fcells_size]; exact sizeFd), rfl, M7.below⟩
  case stop =>
    rintro D c pre W5 hD _ h hK
    exact h.elim

theorem mirrorAt_closure (f : Fd) (hs1 : 1 ≤ f.W) (hs2 : f.W ≤ 10) (hs3 : 1 ≤ f.H) (hs4 : f.H ≤ 10) (eb : Nat) (k : Nat) (w : World) (hc : isCell (Fd.bare f.W f.H) k = true) (he : w.cell? ⟨eb, 0, none⟩ = some (.int .i64 (f.W - 1))) :
    Calls Tryd.prog 52 #[.int .i64 ((k : Int) % 10), .int .i64 ((k : Int) / 10), .pointer (some ⟨eb, 0, none⟩)] w fun e w2 => e = .returned (.int .i64 (mirrorAt f k)) ∧ Below w.heap.size w w2 := by
  obtain ⟨hq1, hq2⟩ := mirror_nat hs2 hc
  rw [hq2]
  have hk := isCell_lt hc
  have hx : (k : Int) % 10 ≤ f.W - 1 := by
    simp only [isCell, Fd.bare, Bool.and_eq_true, inB_iff] at hc
    obtain ⟨⟨h1, h2⟩, h3⟩ := hc
    have h2 := of_decide_eq_true h2
    omega
  have hlt := World.block_lt_of_cell? _ _ he
  go_enter Tryd.func52, Tryd.ntmps52
  go_wp2_with (go_at_call 53; refine (cellAt_any _ _ ⟨by omega, by omega⟩ ⟨by omega, by omega⟩ _).mono ?_; rintro e w' ⟨rfl, rfl⟩)
  go_ret
  exact ⟨rfl, Below.refl _ _⟩
set_option maxRecDepth 100000 in
set_option maxHeartbeats 4000000 in
theorem implMirrorField (f : Fd) (hf : f.Wf) (A : Nat → Addr) (w : World) (S0 : Sents w A) : Calls Tryd.prog 23 #[.agg (fcells f)] w fun e w' => e = .returned (.tuple #[.agg (fcells (mirrored f)), .int .i64 (if okF f then 0 else 1)]) ∧ Below w.heap.size w w' := by
  have S : Hid (Sents w A) := Lib.hid S0
  clear S0
  have hif := isIfaceErr
  have hz : Hid (Tryd.zeroCells27.size = 202) := Lib.hid (by rw [zeroFd, fcells_size])
  have hz1 : Hid (Tryd.zeroCells27.all (·.oneCell') = true) := Lib.hid (by rw [zeroFd]; exact fcells_one _)
  unfold mirrored
  cases hok : okF f with
  | false =>
    simp only [Bool.false_eq_true, if_false]
    go_enter Tryd.func23, Tryd.ntmps23
    go_upto_region 1 with (fail)
    obtain ⟨W, hW, M⟩ := open2 w (fcells f) 27 Tryd.zeroCells27 27
    rw [hW]; clear hW
    go_wp2_with (first
      | (refine wpList_load_part rfl 27 _ rfl w.heap.size 0 rfl (fcells f) _ (M.at 0 rfl).whole Tryd.underlying27 rfl (by rw [fcells_size]; exact sizeFd) ?_)
      | (refine wpList_buildRow rfl 78 27 _ rfl (fcells f) rfl Tryd.underlying78 (by rw [fcells_size]; exact sizeFd) (by rw [fcells_size]; kernel_rfl) (by rw [fcells_size]; omega) (by rw [fcells_size]; omega) ?_)
      | (go_at_call 40; refine (checkFields1 f hf A _ _ _ (Blk.new _ _ _) (S.out.later (M.alloc _ _).below)).mono ?_; rintro e W2 ⟨rfl, hb⟩; rw [hok, errIf_false]; have M2 := (M.alloc _ _).call hb; clear hb)
      | (go_at_call 31; refine (codeOf_err A 1 (by omega) (by omega) _ (S.out.later M2.below)).mono ?_; rintro e W3 ⟨rfl, rfl⟩)
      | (refine wpList_store_row rfl 27 _ _ rfl (w.heap.size + 1) Tryd.zeroCells27 rfl rfl 27 _ (M2.at 1 rfl) (by rw [hz.out]; exact sizeFd) (by rw [hz.out]) hz1.out ?_))
    have M4 := M2.row 1 rfl Tryd.zeroCells27
    exact bodyPost_ret (results_row_tmp rfl _ _ (w.heap.size + 1) 27 _ _ _ rfl (M4.at 1 rfl) Tryd.underlying27 rfl (by rw [hz.out]; exact sizeFd)) rfl ⟨by rw [zeroFd]; rfl, M4.below⟩
  | true =>
    simp only [if_true]
    obtain ⟨hs1, hs2, hs3, hs4⟩ := okF_size hok
    go_enter Tryd.func23, Tryd.ntmps23
    go_upto_region 1 with (fail)
    obtain ⟨W, hW, M⟩ := open2 w (fcells f) 27 Tryd.zeroCells27 27
    rw [hW]; clear hW
    go_upto_region 5 with (first
      | (refine wpList_load_part rfl 27 _ rfl w.heap.size 0 rfl (fcells f) _ (M.at 0 rfl).whole Tryd.underlying27 rfl (by rw [fcells_size]; exact sizeFd) ?_)
      | (refine wpList_buildRow rfl 78 27 _ rfl (fcells f) rfl Tryd.underlying78 (by rw [fcells_size]; exact sizeFd) (by rw [fcells_size]; kernel_rfl) (by rw [fcells_size]; omega) (by rw [fcells_size]; omega) ?_)
      | (go_at_call 40; refine (checkFields1 f hf A _ _ _ (Blk.new _ _ _) (S.out.later (M.alloc _ _).below)).mono ?_; rintro e W2 ⟨rfl, hb⟩; rw [hok, errIf_true]; have M2 := (M.alloc _ _).call hb; clear hb; have c0 := (M2.at 0 rfl).cell (fcells_0 f); have c1 := (M2.at 0 rfl).cell (fcells_1 f)))
    obtain ⟨W4, hW4⟩ : ∃ W4, W2.alloc (.cells #[.int .i64 (f.W - 1)] 2) = W4 := ⟨_, rfl⟩
    have M3 := M2.alloc #[.int .i64 (f.W - 1)] 2
    rw [hW4] at M3 ⊢; clear hW4 c0 c1
    have c0 := (M3.at 0 rfl).cell (fcells_0 f)
    have c1 := (M3.at 0 rfl).cell (fcells_1 f)
    go_wp2_with (first
      | (refine wpList_load_part rfl 27 _ rfl w.heap.size 0 rfl (fcells f) _ (M3.at 0 rfl).whole Tryd.underlying27 rfl (by rw [fcells_size]; exact sizeFd) ?_)
      | (go_at_call 51; refine (rearranged_any f f.W f.H ⟨by omega, by omega⟩ ⟨by omega, by omega⟩ 52 _ (.int .i64 (f.W - 1)) (mirrorAt f) (fun k hk => (show _ ∧ _ from mirror_nat hs2 hk).1) (enters_of Tryd.func52 (by kernel_rfl) rfl) (fun k w' hk he => mirrorAt_closure f hs1 hs2 hs3 hs4 _ k w' hk he) _ ((M3.at 3 rfl).cell (i := 0) rfl)).mono ?_; rintro e W5 ⟨rfl, hb5⟩; have M5 := M3.call hb5; clear hb5)
      | (refine wpList_store_row rfl 27 _ _ rfl (w.heap.size + 1) (fcells (arr f f.W f.H (mirrorAt f) 100)) rfl rfl 27 _ (M5.at 1 rfl) (by rw [fcells_size]; exact sizeFd) (by rw [hz.out, fcells_size]) (fcells_one _) ?_))
    have M6 := M5.row 1 rfl (fcells (arr f f.W f.H (mirrorAt f) 100))
    exact bodyPost_ret (results_row_tmp rfl _ _ (w.heap.size + 1) 27 _ _ _ rfl (M6.at 1 rfl) Tryd.underlying27 rfl (by rw [fcells_size]; exact sizeFd)) rfl ⟨rfl, M6.below⟩

theorem turnAt_closure (f : Fd) (hs1 : 1 ≤ f.W) (hs2 : f.W ≤ 10) (hs3 : 1 ≤ f.H) (hs4 : f.H ≤ 10) (eb : Nat) (k : Nat) (w : World) (hc : isCell (Fd.bare f.H f.W) k = true) (he : w.cell? ⟨eb, 0, none⟩ = some (.int .i64 (f.H - 1))) :
    Calls Tryd.prog 54 #[.int .i64 ((k : Int) % 10), .int .i64 ((k : Int) / 10), .pointer (some ⟨eb, 0, none⟩)] w fun e w2 => e = .returned (.int .i64 (turnAt f k)) ∧ Below w.heap.size w w2 := by
  obtain ⟨hq1, hq2⟩ := turn_nat hs4 hc hs2
  rw [hq2]
  have hk := isCell_lt hc
  have hx : (k : Int) % 10 ≤ f.H - 1 := by
    simp only [isCell, Fd.bare, Bool.and_eq_true, inB_iff] at hc
    obtain ⟨⟨h1, h2⟩, h3⟩ := hc
    have h2 := of_decide_eq_true h2
    omega
  have hlt := World.block_lt_of_cell? _ _ he
  go_enter Tryd.func54, Tryd.ntmps54
  go_wp2_with (go_at_call 53; refine (cellAt_any _ _ ⟨by omega, by omega⟩ ⟨by omega, by omega⟩ _).mono ?_; rintro e w' ⟨rfl, rfl⟩)
  go_ret
  exact ⟨rfl, Below.refl _ _⟩
set_option maxRecDepth 100000 in
set_option maxHeartbeats 4000000 in
theorem implTurnField (f : Fd) (hf : f.Wf) (A : Nat → Addr) (w : World) (S0 : Sents w A) : Calls Tryd.prog 25 #[.agg (fcells f)] w fun e w' => e = .returned (.tuple #[.agg (fcells (turnedQ f)), .int .i64 (if okF f then 0 else 1)]) ∧ Below w.heap.size w w' := by
  have S : Hid (Sents w A) := Lib.hid S0
  clear S0
  have hif := isIfaceErr
  have hz : Hid (Tryd.zeroCells27.size = 202) := Lib.hid (by rw [zeroFd, fcells_size])
  have hz1 : Hid (Tryd.zeroCells27.all (·.oneCell') = true) := Lib.hid (by rw [zeroFd]; exact fcells_one _)
  unfold turnedQ
  cases hok : okF f with
  | false =>
    simp only [Bool.false_eq_true, if_false]
    go_enter Tryd.func25, Tryd.ntmps25
    go_upto_region 1 with (fail)
    obtain ⟨W, hW, M⟩ := open2 w (fcells f) 27 Tryd.zeroCells27 27
    rw [hW]; clear hW
    go_wp2_with (first
      | (refine wpList_load_part rfl 27 _ rfl w.heap.size 0 rfl (fcells f) _ (M.at 0 rfl).whole Tryd.underlying27 rfl (by rw [fcells_size]; exact sizeFd) ?_)
      | (refine wpList_buildRow rfl 78 27 _ rfl (fcells f) rfl Tryd.underlying78 (by rw [fcells_size]; exact sizeFd) (by rw [fcells_size]; kernel_rfl) (by rw [fcells_size]; omega) (by rw [fcells_size]; omega) ?_)
      | (go_at_call 40; refine (checkFields1 f hf A _ _ _ (Blk.new _ _ _) (S.out.later (M.alloc _ _).below)).mono ?_; rintro e W2 ⟨rfl, hb⟩; rw [hok, errIf_false]; have M2 := (M.alloc _ _).call hb; clear hb)
      | (go_at_call 31; refine (codeOf_err A 1 (by omega) (by omega) _ (S.out.later M2.below)).mono ?_; rintro e W3 ⟨rfl, rfl⟩)
      | (refine wpList_store_row rfl 27 _ _ rfl (w.heap.size + 1) Tryd.zeroCells27 rfl rfl 27 _ (M2.at 1 rfl) (by rw [hz.out]; exact sizeFd) (by rw [hz.out]) hz1.out ?_))
    have M4 := M2.row 1 rfl Tryd.zeroCells27
    exact bodyPost_ret (results_row_tmp rfl _ _ (w.heap.size + 1) 27 _ _ _ rfl (M4.at 1 rfl) Tryd.underlying27 rfl (by rw [hz.out]; exact sizeFd)) rfl ⟨by rw [zeroFd]; rfl, M4.below⟩
  | true =>
    simp only [if_true]
    obtain ⟨hs1, hs2, hs3, hs4⟩ := okF_size hok
    go_enter Tryd.func25, Tryd.ntmps25
    go_upto_region 1 with (fail)
    obtain ⟨W, hW, M⟩ := open2 w (fcells f) 27 Tryd.zeroCells27 27
    rw [hW]; clear hW
    go_upto_region 5 with (first
      | (refine wpList_load_part rfl 27 _ rfl w.heap.size 0 rfl (fcells f) _ (M.at 0 rfl).whole Tryd.underlying27 rfl (by rw [fcells_size]; exact sizeFd) ?_)
      | (refine wpList_buildRow rfl 78 27 _ rfl (fcells f) rfl Tryd.underlying78 (by rw [fcells_size]; exact sizeFd) (by rw [fcells_size]; kernel_rfl) (by rw [fcells_size]; omega) (by rw [fcells_size]; omega) ?_)
      | (go_at_call 40; refine (checkFields1 f hf A _ _ _ (Blk.new _ _ _) (S.out.later (M.alloc _ _).below)).mono ?_; rintro e W2 ⟨rfl, hb⟩; rw [hok, errIf_true]; have M2 := (M.alloc _ _).call hb; clear hb; have c0 := (M2.at 0 rfl).cell (fcells_0 f); have c1 := (M2.at 0 rfl).cell (fcells_1 f)))
    obtain ⟨W4, hW4⟩ : ∃ W4, W2.alloc (.cells #[.int .i64 (f.H - 1)] 2) = W4 := ⟨_, rfl⟩
    have M3 := M2.alloc #[.int .i64 (f.H - 1)] 2
    rw [hW4] at M3 ⊢; clear hW4 c0 c1
    have c0 := (M3.at 0 rfl).cell (fcells_0 f)
    have c1 := (M3.at 0 rfl).cell (fcells_1 f)
    go_wp2_with (first
      | (refine wpList_load_part rfl 27 _ rfl w.heap.size 0 rfl (fcells f) _ (M3.at 0 rfl).whole Tryd.underlying27 rfl (by rw [fcells_size]; exact sizeFd) ?_)
      | (go_at_call 51; refine (rearranged_any f f.H f.W ⟨by omega, by omega⟩ ⟨by omega, by omega⟩ 54 _ (.int .i64 (f.H - 1)) (turnAt f) (fun k hk => (show _ ∧ _ from turn_nat hs4 hk hs2).1) (enters_of Tryd.func54 (by kernel_rfl) rfl) (fun k w' hk he => turnAt_closure f hs1 hs2 hs3 hs4 _ k w' hk he) _ ((M3.at 3 rfl).cell (i := 0) rfl)).mono ?_; rintro e W5 ⟨rfl, hb5⟩; have M5 := M3.call hb5; clear hb5)
      | (refine wpList_store_row rfl 27 _ _ rfl (w.heap.size + 1) (fcells (arr f f.H f.W (turnAt f) 100)) rfl rfl 27 _ (M5.at 1 rfl) (by rw [fcells_size]; exact sizeFd) (by rw [hz.out, fcells_size]) (fcells_one _) ?_))
    have M6 := M5.row 1 rfl (fcells (arr f f.H f.W (turnAt f) 100))
    exact bodyPost_ret (results_row_tmp rfl _ _ (w.heap.size + 1) 27 _ _ _ rfl (M6.at 1 rfl) Tryd.underlying27 rfl (by rw [fcells_size]; exact sizeFd)) rfl ⟨rfl, M6.below⟩

end Go.Proofs.YtljlbdnlcibhfaaDoor
