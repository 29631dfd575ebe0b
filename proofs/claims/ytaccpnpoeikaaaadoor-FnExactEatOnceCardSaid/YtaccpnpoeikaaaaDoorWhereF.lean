/-
  The cells that a method value wants: cellsWhere, by what the method answers for each cell.
-/
import Derived.Test.YtaccpnpoeikaaaaDoorCoreD
namespace Go.Proofs.YtaccpnpoeikaaaaDoor
open Go Go.RowKit Go.Shelf
attribute [local go_sem] Oper.semAt_some

theorem run_callFirst {P : Program} {o : Oper} {a : Act} {f : FuncId} {t : Operand} {first caps : Array Value} {xs : Array Operand} {tys : Array TypeId} (ho : o.op = .call { callee := .value t, args := xs, argTypes := tys }) (ht : a.eval t = .func (.func f) first caps) (vs : Array Value) (hvs : first.toList ++ xs.toList.map a.eval ++ caps.toList = vs.toList)
    (he : ∀ (args : Array Value) (w : World), (callFunc f args).run P w = .ok (.enter f args) w) (w : World) : (execOp a.eval o).run P w = .ok (.enter f vs) w := by
  obtain rfl : first ++ xs.map a.eval ++ caps = vs := Array.ext' (by rw [Array.toList_append, Array.toList_append, Array.toList_map]; exact hvs)
  unfold execOp
  simp only [ho, resolve, ht]
  simp [go_sem, invoke, he]
theorem callFirstIn {F : Fence} {n : Nat} {P : Program} {ops : Array Oper} {Q : Exit → Act → World → Prop} {rest : List Oper} {op : Oper} {a : Act} {w : World} (hF : ∀ k, F.fn k) (hdep : F.depth.isSome = false) (hgd : op.guard = none) {f : FuncId} {t : Operand} {first caps : Array Value} {xs : Array Operand} {tys : Array TypeId} (ho : op.op = .call { callee := .value t, args := xs, argTypes := tys }) (ht : a.eval t = .func (.func f) first caps) (vs : Array Value) (hvs : first.toList ++ xs.toList.map a.eval ++ caps.toList = vs.toList)
    (he : ∀ (args : Array Value) (w : World), (callFunc f args).run P w = .ok (.enter f args) w) (v0 : Value) (R : World → Prop) (hc : CallsIn F (n - 1) P f vs w (fun e w' => e = .returned v0 ∧ R w'))
    (h : ∀ w', R w' → wpListIn F n P ops Q rest (a.put op.dst v0) w') : wpListIn F n P ops Q (op :: rest) a w := by
  have hw : Region.wanted op (yielded ops a.tmps) = true := by simp [Region.wanted, hgd]
  unfold wpListIn
  rw [if_pos hw]
  unfold Oper.wpIn
  refine ⟨fun f' _ => hF f', ?_⟩
  rw [semAt_plain F.round a.eval op (fun c e => by rw [ho] at e; cases e), run_callFirst ho ht vs hvs he w, Oper.uponIn_enter]
  refine ⟨fun h => (by rw [hdep] at h; cases h), hc.mono fun e w2 ⟨he, hr⟩ => ?_⟩
  subst he
  exact h _ hr
set_option maxRecDepth 100000 in
set_option maxHeartbeats 8000000 in
theorem cellsWhere_first (f : Fd) (hok : okF f = true) (fc : FuncId) (first caps : Array Value) (q : Nat → Bool) (E : World → Prop) (hE : ∀ w w', E w → Below w.heap.size w w' → E w')
    (hcl : ∀ (k : Nat) (w' : World), isCell f k = true → E w' → Calls Tryd.prog fc (first ++ #[.int .i64 k] ++ caps) w' fun e w2 => e = .returned (.bool (q k)) ∧ Below w'.heap.size w' w2)
    (w : World) (he : E w) (hent : ∀ (args : Array Value) (w : World), (callFunc fc args).run Tryd.prog w = .ok (.enter fc args) w) :
    Calls Tryd.prog 60 #[.agg (fcells f), .func (.func fc) first caps] w fun e w' => e = .returned (.agg (acells .u64 2 (wantSet f q 100))) ∧ Below w.heap.size w w' := by
  have hWs : inB f.W 1 10 = true := by simp only [okF, Bool.and_eq_true] at hok; exact hok.1.1
  have hHs : inB f.H 1 10 = true := by simp only [okF, Bool.and_eq_true] at hok; exact hok.1.2
  have HCL := Lib.hid hcl
  have HE := Lib.hid hE
  have E0 := Lib.hid he
  have HENT := Lib.hid hent
  clear hcl hE he hent
  have hdep : Fence.wide.depth.isSome = false := rfl
  have hfn : ∀ k, Fence.wide.fn k := fun _ => trivial
  refine (callsIn_wide (n := 3)).1 ?_
  refine callsIn_of_wp_marks Tryd.func60 rfl trivial ?_ rfl
  simp only [Tryd.ntmps60, List.size_toArray, List.length_cons, List.length_nil, Nat.reduceAdd, Nat.reduceSub, Array.replicate_succ, Array.replicate_zero, List.push_toArray, List.append_toArray, List.nil_append, List.cons_append]
  gi_upto_region 2 with (fail)
  rw [zero2]
  obtain ⟨W, hW, M⟩ := open3 w (fcells f) 35 #[.func (.func fc) first caps] 107 (acells .u64 2 (fun _ => 0)) 32
  have M3 : Mem w (W.alloc (.cells (acells .u64 2 (fun _ => 0)) 32)) [⟨w.heap.size, fcells f, 35⟩, ⟨w.heap.size + 1, #[.func (.func fc) first caps], 107⟩, ⟨w.heap.size + 1 + 1, acells .u64 2 (fun _ => 0), 32⟩, ⟨w.heap.size + 1 + 1 + 1, acells .u64 2 (fun _ => 0), 32⟩] := by
    have h := M.alloc (acells .u64 2 (fun _ => 0)) 32
    have hs : W.heap.size = w.heap.size + 1 + 1 + 1 := by rw [← hW]; simp
    rw [hs] at h
    exact h
  rw [hW]; clear hW M
  generalize W.alloc _ = W3 at M3 ⊢
  gi_wp2_with (first
    | (refine loadIn hfn rfl 35 _ rfl w.heap.size 0 rfl (fcells f) _ (M3.at 0 rfl).whole Tryd.underlying35 rfl (by rw [fcells_size]; exact sizeFd) ?_)
    | (gi_at_call 73; refine (callsIn_wide.2 (cellsIn_any f _)).mono ?_; rintro e w' ⟨rfl, rfl⟩))
  obtain ⟨bi, hbi⟩ : ∃ bi, bi = W3.heap.size := ⟨_, rfl⟩
  have M4 : Mem w (W3.alloc (Obj.cells (fcells f) 35)) [⟨w.heap.size, fcells f, 35⟩, ⟨w.heap.size + 1, #[.func (.func fc) first caps], 107⟩, ⟨w.heap.size + 1 + 1, acells .u64 2 (fun _ => 0), 32⟩, ⟨w.heap.size + 1 + 1 + 1, acells .u64 2 (wantL (f := f) q []), 32⟩, ⟨bi, fcells f, 35⟩] := by rw [hbi]; exact M3.alloc (fcells f) 35
  generalize W3.alloc _ = W4 at M4 ⊢
  rw [← hbi]
  clear hbi M3
  have hsz : w.heap.size ≤ W4.heap.size := M4.below.size
  refine wpIn_rangeFunc_ownF rfl (by omega) (gf := 88) (lb := #[.pointer (some ⟨bi, 0, none⟩)]) rfl trivial (enters_of Tryd.func88 (by kernel_rfl) rfl)
    (cells_stops 2 bi f (inB_size hWs) (inB_size hHs) W4 (M4.at 4 rfl)) (fun h k => k.trans h)
    (fun W l o o' hl ho hc _ => World.putObj_heap_other (fun e => by
      have := (M4.at 4 rfl).lt
      omega))
    (Below.refl _ _) (fun _ => rfl)
    (fun pre W => Mem w W [⟨w.heap.size, fcells f, 35⟩, ⟨w.heap.size + 1, #[.func (.func fc) first caps], 107⟩, ⟨w.heap.size + 1 + 1, acells .u64 2 (fun _ => 0), 32⟩, ⟨w.heap.size + 1 + 1 + 1, acells .u64 2 (wantL q pre), 32⟩, ⟨bi, fcells f, 35⟩])
    (fun _ _ _ => False)
    (fun s A B row hs hg hr => hs.grown hsz hg hr)
    (fun c s A B row hs hg hr => hs)
    M4
    (fun x => { tmps := #[.agg (fcells f), .func (.func fc) first caps, .pointer (some ⟨w.heap.size, 0, none⟩), .pointer (some ⟨w.heap.size + 1, 0, none⟩), .pointer (some ⟨w.heap.size + 1 + 1, 0, none⟩), .pointer (some ⟨w.heap.size + 1 + 1 + 1, 0, none⟩), .int .i64 (x.1 : Int), .agg (fcells f), .func (.func 88) #[] #[.pointer (some ⟨bi, 0, none⟩)], .int .i64 (x.1 : Int), undef, undef, undef, undef, undef, undef, undef], defers := [] }) ?assign ?body ?done ?stop
  case assign =>
    intro l x W K hK
    gi_wp2
    exact hK
  case body =>
    rintro l pre x W5 M5 _
    have hfn' : ∀ k, (Fence.wide.inRound l).fn k := fun _ => trivial
    have hdep' : (Fence.wide.inRound l).depth.isSome = false := rfl
    have hx := isCell_lt x.2
    have cf := (M5.at 1 rfl).cell (i := 0) rfl
    have hcall := HCL.out x.1 W5 x.2 (HE.out _ _ E0.out M5.below)
    cases hkv : q x.1 with
    | false =>
      rw [hkv] at hcall
      have hno : Hid (wantL q (pre ++ [x]) = wantL q pre) := Lib.hid (by rw [wantL_snoc, hkv]; rfl)
      gi_wp2_with (refine callFirstIn hfn' hdep' rfl rfl rfl (first ++ #[.int .i64 (x.1 : Int)] ++ caps) (by rw [Array.toList_append, Array.toList_append]; rfl) HENT.out (.bool false) (fun w2 => Below W5.heap.size W5 w2) (by exact CallsIn.inRound l (callsIn_wide.2 hcall)) ?_; intro W6 hb6; have M6 := M5.call hb6)
      exact ⟨KeepsOthers.of_below hb6, M5.same M6 4 4 rfl rfl, by show Mem w _ _; rw [hno.out]; exact M6⟩
    | true =>
      rw [hkv] at hcall
      have hyes : Hid (wantL q (pre ++ [x]) = putC (wantL q pre) x.1) := Lib.hid (by rw [wantL_snoc, hkv]; rfl)
      gi_wp2_with (first
        | (refine callFirstIn hfn' hdep' rfl rfl rfl (first ++ #[.int .i64 (x.1 : Int)] ++ caps) (by rw [Array.toList_append, Array.toList_append]; rfl) HENT.out (.bool true) (fun w2 => Below W5.heap.size W5 w2) (by exact CallsIn.inRound l (callsIn_wide.2 hcall)) ?_; intro W6 hb6; have M6 := M5.call hb6)
        | (refine loadIn hfn' rfl 32 _ rfl (w.heap.size + 1 + 1 + 1) 0 rfl (acells .u64 2 (wantL q pre)) _ (M6.at 3 rfl).whole Tryd.underlying32 rfl (by rw [acells_size]; exact sizeC) ?_)
        | (gi_at_call 54; refine (CallsIn.inRound l (callsIn_wide.2 (withCell_any (wantL q pre) x.1 hx _))).mono ?_; rintro e W7 ⟨rfl, hb7⟩; have M7 := M6.call hb7)
        | (refine storeIn hfn' rfl 32 _ _ rfl (w.heap.size + 1 + 1 + 1) 0 (acells .u64 2 (putC (wantL q pre) x.1)) rfl rfl ((M7.at 3 rfl).there 0 _ (by simp only [acells_size]; omega)) (by rw [acells_size]; exact sizeC) (acells_one _ _ _) ?_))
      have M8 := M7.cells 3 0 (acells .u64 2 (putC (wantL q pre) x.1)).toList rfl (acells .u64 2 (putC (wantL q pre) x.1)) ((M7.at 3 rfl).over (acells .u64 2 (putC (wantL q pre) x.1)) (by simp only [acells_size]))
      exact ⟨((KeepsOthers.of_below hb6).trans (KeepsOthers.of_below hb7)).trans (keeps_setCells _ _ _ _), M5.same M8 4 4 rfl rfl, by show Mem w _ _; rw [hyes.out]; exact M8⟩
  case done =>
    rintro D xs W5 hD rfl M5 hK
    rw [wantL_to f q 100] at M5
    have M6 := M5.cells 2 0 (acells .u64 2 (wantSet f q 100)).toList rfl (acells .u64 2 (wantSet f q 100)) ((M5.at 2 rfl).over (acells .u64 2 (wantSet f q 100)) (by simp only [acells_size]))
    have hK6 : (W5.setCells (w.heap.size + 1 + 1) 0 (acells .u64 2 (wantSet f q 100)).toList).heap[D]? = some (.deferred (some [])) := by
      have hne : D ≠ w.heap.size + 1 + 1 := fun e => by
        have h := M5.at 2 rfl
        rw [e] at hK
        rw [show W5.heap[w.heap.size + 1 + 1]? = _ from h] at hK
        cases hK
      rw [look_cells_other _ _ hne]; exact hK
    gi_wp2_with (first
      | (refine loadIn hfn rfl 32 _ rfl (w.heap.size + 1 + 1 + 1) 0 rfl (acells .u64 2 (wantSet f q 100)) _ (M5.at 3 rfl).whole Tryd.underlying32 rfl (by rw [acells_size]; exact sizeC) ?_)
      | (refine storeIn hfn rfl 32 _ _ rfl (w.heap.size + 1 + 1) 0 (acells .u64 2 (wantSet f q 100)) rfl rfl ((M5.at 2 rfl).there 0 _ (by simp only [acells_size]; omega)) (by rw [acells_size]; exact sizeC) (acells_one _ _ _) ?_))
    refine ⟨by simp, .inl ⟨_, _, rfl, run_takeDeferred hK6, ?_⟩⟩
    have M7 := M6.taken (o' := .deferred none) (Nat.le_trans hsz hD) hK6 rfl
    exact ⟨_, results_cell_row rfl _ _ (w.heap.size + 1 + 1) 32 _ _ _ rfl (M7.at 2 rfl) Tryd.underlying32 rfl (by rw [acells_size]; exact sizeC), rfl, M7.below⟩
  case stop =>
    rintro D c pre W5 hD _ h hK
    exact h.elim
end Go.Proofs.YtaccpnpoeikaaaaDoor
