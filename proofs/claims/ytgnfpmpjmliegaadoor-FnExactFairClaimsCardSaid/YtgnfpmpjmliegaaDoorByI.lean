/-
  The losses of each owner: the program's.
-/
import Derived.Test.YtgnfpmpjmliegaaDoorBy
import Derived.Test.YtgnfpmpjmliegaaDoorRegIn
import Derived.Test.YtgnfpmpjmliegaaDoorPairV
namespace Go.Proofs.YtgnfpmpjmliegaaDoor
open Go Go.RowKit Go.Shelf
attribute [local go_sem] Oper.semAt_some

section
variable {P : Program} {ops : Array Oper} {C : World → Prop} {l : List OpD} {Q : Act → Left → Prop} {o : Oper} {rest : List Oper} {k : Nat} {a : Act} {g : Left}
theorem rel_indexN (t e : TypeId) (x ix : Operand) (ho : o.op = .indexAddr t x ix) (b off n c sz i : Nat) (hx : a.eval x = .slice (some ⟨b, off, none⟩) n c) (hix : a.eval ix = .int .i64 i) (hi : i < n) (hu : P.underlying t = some (.slice e)) (hsz : (P.info? e).map (·.size) = some sz)
    (hl : l[k]? = some (dV (.pointer (some ⟨b, off + i * sz, none⟩)))) (hw : Region.wanted o (yielded ops a.tmps) = true)
    (h2 : ∀ x, wpRel P ops C (DL l) Q rest (k + 1) (a.put o.dst (.pointer (some ⟨b, off + i * sz, none⟩))) (g.upd k x)) : wpRel P ops C (DL l) Q (o :: rest) k a g :=
  rel_val _ hl hw (fun w _ => by
    have he : P.elem t = e := by simp [Program.elem, hu]
    cases hie : P.info? e with
    | none => simp [hie] at hsz
    | some ie =>
      simp only [hie, Option.map_some, Option.some.injEq] at hsz
      have hr : (Instr.indexAt t (.slice (some ⟨b, off, none⟩) n c) (.int .i64 (i : Int))).run P w = .ok (.pointer (some ⟨b, off + i * sz, none⟩)) w := by
        rw [run_indexAt_slice _ _ _ _ _ _ _ (by rw [he]; exact hu), if_pos ⟨by omega, by omega⟩, he]
        simp [sizeOf, typeInfo, hie, hsz, Addr.add]
      unfold execOp
      simp only [ho, hx, hix, Sem.run_bind, hr, Result.andThen_ok, Sem.run_pure]) h2
end
def byL {f : Fd} (g : Fd) (o : Nat → Int) (l : List (CellOf f)) : Nat → Int := l.foldl (fun h c => fun j => if o c.1 = ((j : Nat) : Int) then h j + lossN f g c.1 else h j) (fun _ => 0)
theorem byL_snoc {f : Fd} (g : Fd) (o : Nat → Int) (l : List (CellOf f)) (c : CellOf f) : byL g o (l ++ [c]) = fun j => if o c.1 = ((j : Nat) : Int) then byL g o l j + lossN f g c.1 else byL g o l j := by
  simp only [byL, List.foldl_append, List.foldl_cons, List.foldl_nil]
theorem byL_to {f : Fd} (g : Fd) {o : Nat → Int} (h : ownFit f o = true) : ∀ n, n ≤ 100 → byL g o (cellsTo f n) = byTo f g o n
  | 0, _ => rfl
  | n + 1, hn => by
    have ih := byL_to g h n (by omega)
    rcases ownFit_at h (i := n) (by omega) with ⟨hc, _⟩ | ⟨hc, h1⟩
    · rw [cellsTo_yes hc, byL_snoc, ih]; rfl
    · rw [cellsTo_no hc, ih]; exact (funext (byTo_skip (by omega))).symm
theorem load_sl (b off : Nat) (v : Value) (w : World) (c : w.cell? ⟨b, off, none⟩ = some v) : (Instr.loadAt 29 (.pointer (some ⟨b, off, none⟩))).run Tryd.prog w = .ok v w := by
  simp [go_sem, c]
theorem load_n64 (b off : Nat) (v : Value) (w : World) (c : w.cell? ⟨b, off, none⟩ = some v) : (Instr.loadAt 2 (.pointer (some ⟨b, off, none⟩))).run Tryd.prog w = .ok v w := by
  simp [go_sem, c]
set_option maxRecDepth 100000 in
set_option maxHeartbeats 8000000 in
theorem lossBy_any (f g : Fd) (hf : f.Wf) (hg : g.Wf) (h1 : okF f = true) (h2 : okF g = true) (o : Nat → Int) (ho : WfO o) (hfit : ownFit f o = true) (w : World) :
    Calls Tryd.prog 29 #[.agg (pcells f g), .agg (acells .i8 100 o)] w fun e w' => ∃ bs, e = .returned (.slice (some ⟨bs, 0, none⟩) 10 10) ∧ w.heap.size ≤ bs ∧ Blk w' bs (acells .i64 10 (byTo f g o 100)) 2 ∧ Below w.heap.size w w' := by
  have H1 := Lib.hid h1
  have H2 := Lib.hid h2
  have HF := Lib.hid hf
  have HG := Lib.hid hg
  have HO := Lib.hid ho
  have HFIT := Lib.hid hfit
  have hall := Lib.hid (byL_to g hfit 100 (by omega))
  have hWs : inB f.W 1 10 = true := by simp only [okF, Bool.and_eq_true] at h1; exact h1.1.1
  have hHs : inB f.H 1 10 = true := by simp only [okF, Bool.and_eq_true] at h1; exact h1.1.2
  have hWs' := Lib.hid (inB_size hWs)
  have hHs' := Lib.hid (inB_size hHs)
  clear h1 h2 hf hg ho hfit hWs hHs
  have hdep : Fence.wide.depth.isSome = false := rfl
  have hfn : ∀ k, Fence.wide.fn k := fun _ => trivial
  refine (callsIn_wide (n := 3)).1 ?_
  refine callsIn_of_wp_marks Tryd.func29 rfl trivial ?_ rfl
  simp only [Tryd.ntmps29, List.size_toArray, List.length_cons, List.length_nil, Nat.reduceAdd, Nat.reduceSub, Array.replicate_succ, Array.replicate_zero, List.push_toArray, List.append_toArray, List.nil_append, List.cons_append]
  gi_upto_region 1 with (fail)
  obtain ⟨W, hW, M⟩ := open2 w (pcells f g) 59 (acells .i8 100 o) 34
  rw [hW]; clear hW
  refine wpIn_wide.2 ?_
  obtain ⟨bs, hbs⟩ : ∃ b, b = W.heap.size := ⟨_, rfl⟩
  have M1 := M.alloc (acells .i64 10 (fun _ => 0)) 2
  rw [← hbs] at M1
  have hbs' := Lib.hid (show w.heap.size ≤ bs by have := M.below.size; omega)
  go_upto_region 2 with (first
    | (refine wpList_makeN rfl 29 2 _ rfl 10 rfl Tryd.underlying29 (by kernel_rfl) (by omega) ?_; rw [← hbs]; generalize W.alloc _ = W1 at M1 ⊢; clear hbs M))
  have M2 := M1.alloc #[.slice (some ⟨bs, 0, none⟩) 10 10] 29
  obtain ⟨bt, hbt⟩ : ∃ b, b = W1.heap.size := ⟨_, rfl⟩
  rw [← hbt] at M2 ⊢
  generalize W1.alloc _ = W2 at M2 ⊢
  clear hbt M1
  gi_wp2_with (first
    | (refine loadIn hfn rfl 59 _ rfl w.heap.size 0 rfl (pcells f g) _ (M2.at 0 rfl).whole Tryd.underlying59 rfl (by rw [pcells_size]; exact sizeP) ?_)
    | (gi_at_call 40; refine (callsIn_wide.2 (pairCells_any f g _)).mono ?_; rintro e w' ⟨rfl, rfl⟩))
  have M6 := (M2.alloc (pcells f g) 59).alloc (fcells f) 32
  obtain ⟨bi, hbi⟩ : ∃ bi, bi = W2.heap.size + 1 := ⟨_, rfl⟩
  rw [World.size_alloc, ← hbi] at M6
  generalize (W2.alloc _).alloc _ = W6 at M6 ⊢
  rw [← hbi]
  obtain ⟨bj, hbj⟩ : ∃ bj, bj = W2.heap.size := ⟨_, rfl⟩
  rw [← hbj] at M6
  clear hbi hbj M2
  have hsz : w.heap.size ≤ W6.heap.size := M6.below.size
  have M7 : Mem w W6 [⟨w.heap.size, pcells f g, 59⟩, ⟨w.heap.size + 1, acells .i8 100 o, 34⟩, ⟨bs, acells .i64 10 (byL (f := f) g o []), 2⟩, ⟨bt, #[.slice (some ⟨bs, 0, none⟩) 10 10], 29⟩, ⟨bj, pcells f g, 59⟩, ⟨bi, fcells f, 32⟩] := M6
  clear M6
  refine wpIn_rangeFunc_ownF rfl (by omega) (gf := 57) (lb := #[.pointer (some ⟨bi, 0, none⟩)]) rfl trivial (enters_of Tryd.func57 (by kernel_rfl) rfl)
    (cells_stops 2 bi f hWs'.out hHs'.out W6 (M7.at 5 rfl)) (fun h k => k.trans h)
    (fun W l o o' hl ho hc _ => World.putObj_heap_other (fun e => by
      have := (M7.at 5 rfl).lt
      omega))
    (Below.refl _ _) (fun _ => rfl)
    (fun pre W => Mem w W [⟨w.heap.size, pcells f g, 59⟩, ⟨w.heap.size + 1, acells .i8 100 o, 34⟩, ⟨bs, acells .i64 10 (byL (f := f) g o pre), 2⟩, ⟨bt, #[.slice (some ⟨bs, 0, none⟩) 10 10], 29⟩, ⟨bj, pcells f g, 59⟩, ⟨bi, fcells f, 32⟩] ∧ ∀ j : Nat, -1000 * (pre.length : Int) ≤ byL g o pre j ∧ byL g o pre j ≤ 1000 * (pre.length : Int))
    (fun _ _ _ => False)
    (fun s A B row hs hg hr => ⟨hs.1.grown hsz hg hr, hs.2⟩)
    (fun c s A B row hs hg hr => hs)
    ⟨M7, fun j => by simp [byL]⟩
    (fun x => { tmps := #[.agg (pcells f g), .agg (acells .i8 100 o), .pointer (some ⟨w.heap.size, 0, none⟩), .pointer (some ⟨w.heap.size + 1, 0, none⟩), .slice none 0 0, .pointer (some ⟨bt, 0, none⟩), .int .i64 (x.1 : Int), .slice (some ⟨bs, 0, none⟩) 10 10, .agg (pcells f g), .func (.func 57) #[] #[.pointer (some ⟨bi, 0, none⟩)], .int .i64 (x.1 : Int), undef, undef, undef, undef, undef, undef, undef, undef, undef, undef, undef, undef], defers := [] }) ?assign ?body ?done ?stop
  case assign =>
    intro l x W K hK
    gi_wp2
    exact hK
  case body =>
    rintro l pre x W8 ⟨M8, hin⟩ hlen
    have hfn' : ∀ k, (Fence.wide.inRound l).fn k := fun _ => trivial
    have hdep' : (Fence.wide.inRound l).depth.isSome = false := rfl
    have hx := isCell_lt x.2
    have hx1 : (x.1 : Int) < 100 := by omega
    have hlen' : pre.length < 100 := hlen
    have hr := lossN_in H1.out H2.out hx
    have hsn := Lib.hid (byL_snoc g o pre x)
    rcases ownFit_at HFIT.out hx with ⟨_, k1, k2⟩ | ⟨hn, _⟩
    rotate_left
    · exact absurd (x.2.symm.trans hn) (by decide)
    obtain ⟨j, hj0⟩ : ∃ j : Nat, o x.1 = (j : Int) := ⟨(o x.1).toNat, by omega⟩
    have hj2 : j < 10 := by omega
    have hj := Lib.hid hj0
    have hin' := Lib.hid hin
    obtain ⟨u1, u2⟩ := hin j
    obtain ⟨v, hv0⟩ : ∃ v, v = lossN f g x.1 := ⟨_, rfl⟩
    obtain ⟨s, hs0⟩ : ∃ s, s = byL g o pre j := ⟨_, rfl⟩
    rw [← hv0] at hr
    rw [← hs0] at u1 u2
    have hv := Lib.hid hv0
    have hs := Lib.hid hs0
    clear hv0 hs0 hj0 k1 k2 hin
    have hw2 : IntKind.i64.wrap (s + v) = s + v := IntWalk.i64_in _ (by omega)
    gi_wp2
    refine wpIn_region_rel_tail 11 (DL [dV (.slice (some ⟨bs, 0, none⟩) 10 10), dV (.agg (acells .i8 100 o)), dV (.int .i64 (x.1 : Int)), dV (.int .i64 (j : Int)), dV (.pointer (some ⟨bs, 0 + j * 1, none⟩)), dV (.int .i64 s), dV (.agg (pcells f g)), dV (.int .i64 (x.1 : Int)), dV (.int .i64 v), dV (.int .i64 (s + v)), dV (.pointer (some ⟨bs, 0 + j * 1, none⟩))]) (fun w' => Mem w w' [⟨w.heap.size, pcells f g, 59⟩, ⟨w.heap.size + 1, acells .i8 100 o, 34⟩, ⟨bs, acells .i64 10 (byL (f := f) g o pre), 2⟩, ⟨bt, #[.slice (some ⟨bs, 0, none⟩) 10 10], 29⟩, ⟨bj, pcells f g, 59⟩, ⟨bi, fcells f, 32⟩] ∧ Below W8.heap.size W8 w') hfn' hdep' (by kernel_rfl) (fun f' args w' R h => CallsIn.inRound l (callsIn_wide.2 h)) (by kernel_rfl) (by kernel_rfl) grows_memB
      (stays_DL (fun d hd => by
        simp only [List.mem_cons, List.mem_nil_iff, or_false] at hd
        rcases hd with rfl | rfl | rfl | rfl | rfl | rfl | rfl | rfl | rfl | rfl | rfl <;> exact stay_V)) ⟨M8.drew, (Below.refl _ _).drew⟩ ?_
    refine rel_cell 29 _ rfl bt 0 rfl (.slice (some ⟨bs, 0, none⟩) 10 10) rfl rfl (fun w' c => load_sl _ _ _ w' c) (fun w' hw' => (hw'.1.at 3 rfl).cell (i := 0) rfl) (fun _ => ?_)
    simp only [Act.put, List.setIfInBounds_toArray, List.set_cons_zero, List.set_cons_succ]
    refine rel_load 34 _ rfl (w.heap.size + 1) 0 rfl (acells .i8 100 o) _ rfl rfl (fun w' hw' => (hw'.1.at 1 rfl).whole) Tryd.underlying34 rfl (by rw [acells_size]; exact sizeOw) (fun _ => ?_)
    simp only [Act.put, List.setIfInBounds_toArray, List.set_cons_zero, List.set_cons_succ]
    refine rel_val _ rfl rfl (fun _ _ => rfl) (fun _ => ?_)
    simp only [Act.put, List.setIfInBounds_toArray, List.set_cons_zero, List.set_cons_succ]
    refine rel_call (.int .i64 (j : Int)) 41 #[.agg (acells .i8 100 o), .int .i64 (x.1 : Int)] rfl rfl rfl rfl (enters_of Tryd.func41 (by kernel_rfl) rfl) (fun w' _ => (of_any o HO.out x.1 hx w').mono (fun e w2 h => ⟨by rw [h.1, hj.out], h.2⟩)) (fun _ => ?_)
    simp only [Act.put, List.setIfInBounds_toArray, List.set_cons_zero, List.set_cons_succ]
    refine rel_indexN 29 2 _ _ rfl bs 0 10 10 1 j rfl rfl hj2 Tryd.underlying29 (by kernel_rfl) rfl rfl (fun _ => ?_)
    simp only [Act.put, List.setIfInBounds_toArray, List.set_cons_zero, List.set_cons_succ]
    refine rel_cell 2 _ rfl bs (0 + j * 1) rfl (.int .i64 s) rfl rfl (fun w' c => load_n64 _ _ _ w' c) (fun w' hw' => by rw [Nat.zero_add, Nat.mul_one, hs.out]; exact (hw'.1.at 2 rfl).cell (acells_get _ _ _ j hj2)) (fun _ => ?_)
    simp only [Act.put, List.setIfInBounds_toArray, List.set_cons_zero, List.set_cons_succ]
    refine rel_load 59 _ rfl w.heap.size 0 rfl (pcells f g) _ rfl rfl (fun w' hw' => (hw'.1.at 0 rfl).whole) Tryd.underlying59 rfl (by rw [pcells_size]; exact sizeP) (fun _ => ?_)
    simp only [Act.put, List.setIfInBounds_toArray, List.set_cons_zero, List.set_cons_succ]
    refine rel_val _ rfl rfl (fun _ _ => rfl) (fun _ => ?_)
    simp only [Act.put, List.setIfInBounds_toArray, List.set_cons_zero, List.set_cons_succ]
    refine rel_call (.int .i64 v) 42 #[.agg (pcells f g), .int .i64 (x.1 : Int)] rfl rfl rfl rfl (enters_of Tryd.func42 (by kernel_rfl) rfl) (fun w' _ => (loss_any f g HF.out HG.out x.1 hx w').mono (fun e w2 h => ⟨by rw [h.1, hv.out], h.2⟩)) (fun _ => ?_)
    simp only [Act.put, List.setIfInBounds_toArray, List.set_cons_zero, List.set_cons_succ]
    refine rel_val (.int .i64 (s + v)) rfl rfl (fun w' _ => by simp [execOp, Act.eval, go_sem, hw2]) (fun _ => ?_)
    simp only [Act.put, List.setIfInBounds_toArray, List.set_cons_zero, List.set_cons_succ]
    refine rel_indexN 29 2 _ _ rfl bs 0 10 10 1 j rfl rfl hj2 Tryd.underlying29 (by kernel_rfl) rfl rfl (fun _ => ?_)
    simp only [Act.put, List.setIfInBounds_toArray, List.set_cons_zero, List.set_cons_succ]
    refine rel_nil (fun w' inv => ?_)
    have M9 := inv.cls.1
    have B9 := inv.cls.2
    clear inv
    change wpListIn _ _ _ _ _ (_ :: []) _ _
    rw [Nat.zero_add, Nat.mul_one]
    have e4 := (M9.at 2 rfl).free j
    have c4 := (M9.at 2 rfl).cell (acells_get _ _ _ j hj2)
    clear hw2
    gi_wp2
    have hset : (acells .i64 10 (byL g o pre)).setIfInBounds j (.int .i64 (s + v)) = acells .i64 10 (byL g o (pre ++ [x])) := by
      rw [acells_set _ _ _ _ _ hj2, hsn.out]
      exact acells_congr (fun i _ => by
        show (if i = j then s + v else byL g o pre i) = if o x.1 = (i : Int) then byL g o pre i + lossN f g x.1 else byL g o pre i
        by_cases hi : i = j
        · rw [if_pos hi, if_pos (by rw [hj.out, hi]), hi, ← hs.out, ← hv.out]
        · rw [if_neg hi, if_neg (by rw [hj.out]; omega)])
    have M10 := M9.set 2 j (.int .i64 (s + v)) rfl _ hset
    refine ⟨(KeepsOthers.of_below B9).trans (KeepsOthers.setCell _ _ _), M8.same M10 5 5 rfl rfl, M10, fun i => ?_⟩
    have hb := hin'.out i
    have hr' := lossN_in H1.out H2.out hx
    rw [hsn.out, List.length_append]
    show -1000 * _ ≤ (if o x.1 = (i : Int) then byL g o pre i + lossN f g x.1 else byL g o pre i) ∧ (if o x.1 = (i : Int) then byL g o pre i + lossN f g x.1 else byL g o pre i) ≤ _
    simp only [List.length_cons, List.length_nil]
    split <;> omega
  case done =>
    rintro D xs W8 hD rfl ⟨M8, _⟩ hK
    rw [hall.out] at M8
    have d0 := (M8.at 3 rfl).cell (i := 0) rfl
    gi_wp2
    refine ⟨by simp, .inl ⟨_, _, rfl, run_takeDeferred hK, ?_⟩⟩
    have M9 := M8.taken (o' := .deferred none) (Nat.le_trans hsz hD) hK rfl
    exact ⟨.slice (some ⟨bs, 0, none⟩) 10 10, by simp [results, Tryd.results29, go_sem], bs, rfl, hbs'.out, M9.at 2 rfl, M9.below⟩
  case stop =>
    rintro D c pre W5 hD _ h hK
    exact h.elim
end Go.Proofs.YtgnfpmpjmliegaaDoor
