/-
  Do two valid fields lie before and after one another: the program's answer.
-/
import Derived.Test.YtgnfpmpjmliegaaDoorPairV
import Derived.Test.YtgnfpmpjmliegaaDoorValid
import Derived.Test.YtgnfpmpjmliegaaDoorSumC
namespace Go.Proofs.YtgnfpmpjmliegaaDoor
open Go Go.RowKit Go.Shelf
attribute [local go_sem] Oper.semAt_some

theorem neqIn {F : Fence} {n : Nat} {P : Program} {ops : Array Oper} {Q : Exit → Act → World → Prop} {rest : List Oper} {op : Oper} {a : Act} {w : World} (hF : ∀ k, F.fn k) (hgd : op.guard = none) (t t' : TypeId) (x y : Operand) (ho : op.op = .binOp .neq t x y t')
    (xs ys : Array Value) (hx : a.eval x = .agg xs) (hy : a.eval y = .agg ys) (hm : P.eqGuardType P.depth t = false) (r : Bool) (hr : (Op.equalIn 10000 t (.agg xs) (.agg ys)).run P w = .ok r w)
    (h : wpListIn F n P ops Q rest (a.put op.dst (.bool (!r))) w) : wpListIn F n P ops Q (op :: rest) a w := by
  refine stepIn hF hgd (fun c e => by rw [ho] at e; cases e) ?_ h
  unfold execOp
  simp only [ho, hx, hy]
  rw [Sem.run_bind, run_neq_agg t xs ys r w x y hm hr, Result.andThen_ok, Sem.run_pure]
theorem Fd.withS_wf {f g : Fd} (hf : f.Wf) (hg : g.Wf) : ({ f with S := g.S } : Fd).Wf := ⟨hf.W, hf.H, hf.K, hg.S⟩
theorem feq_emptied (f g : Fd) : feq { f with S := g.S } g = sameKB f g := by
  have e : allTo 100 (fun i => f.K i == g.K i && g.S i == g.S i) = rowEq 100 f.K g.K := allTo_congr (fun i _ => by simp)
  unfold feq sameKB
  rw [← e]
theorem isCell_same {f g : Fd} (h : sameKB f g = true) (c : Int) : isCell g c = isCell f c := by
  simp only [sameKB, Bool.and_eq_true, beq_iff_eq] at h
  unfold isCell; rw [h.1.1, h.1.2]
theorem lessB_of_cells {f g : Fd} (h1 : okF f = true) (h2 : okF g = true) (hs : sameKB f g = true) (h : ∀ c ∈ cellsTo f 100, g.S c.1 ≤ f.S c.1) : lessB f g = true := by
  refine allTo_iff.2 (fun i hi => decide_eq_true ?_)
  cases hc : isCell f i with
  | true => exact h ⟨i, hc⟩ (cellsTo_mem.2 hi)
  | false => rw [ok_outS h1 hi hc, ok_outS h2 hi (by rw [isCell_same hs]; exact hc)]; exact Int.le_refl _
theorem lessB_bad {f g : Fd} {k : Nat} (hk : k < 100) (h : f.S k < g.S k) : lessB f g = false := allTo_false hk (decide_eq_false (by omega))

set_option maxRecDepth 100000 in
set_option maxHeartbeats 8000000 in
theorem fits_any (f g : Fd) (hf : f.Wf) (hg : g.Wf) (h1 : okF f = true) (h2 : okF g = true) (w : World) : Calls Tryd.prog 38 #[.agg (pcells f g)] w fun e w' => e = .returned (.bool (sameKB f g && lessB f g)) ∧ Below w.heap.size w w' := by
  have hdep : Fence.wide.depth.isSome = false := rfl
  have hfn : ∀ k, Fence.wide.fn k := fun _ => trivial
  have hWs : inB f.W 1 10 = true := by simp only [okF, Bool.and_eq_true] at h1; exact h1.1.1
  have hHs : inB f.H 1 10 = true := by simp only [okF, Bool.and_eq_true] at h1; exact h1.1.2
  refine (callsIn_wide (n := 3)).1 ?_
  refine callsIn_of_wp_marks Tryd.func38 rfl trivial ?_ rfl
  simp only [Tryd.ntmps38, List.size_toArray, List.length_cons, List.length_nil, Nat.reduceAdd, Nat.reduceSub, Array.replicate_succ, Array.replicate_zero, List.push_toArray, List.append_toArray, List.nil_append, List.cons_append]
  gi_upto_region 1 with (fail)
  obtain ⟨W, hW, M⟩ := open2 w (pcells f g) 59 #[.bool false] 4
  rw [hW]; clear hW
  have M2 := M.alloc Tryd.zeroCells32 32
  have hzH : Hid (Tryd.zeroCells32.size = 202) := Lib.hid (by rw [zeroFd, fcells_size])
  gi_upto_region 2 with (first
    | (refine loadIn hfn rfl 32 _ rfl w.heap.size 0 rfl (fcells f) _ (M.at 0 rfl).early Tryd.underlying32 rfl (by rw [fcells_size]; exact sizeFd) ?_)
    | (refine storeIn hfn rfl 32 _ _ rfl W.heap.size 0 (fcells f) rfl rfl ((M2.at 2 rfl).there 0 _ (by rw [fcells_size, hzH.out]; omega)) (by rw [fcells_size]; exact sizeFd) (fcells_one _) ?_))
  have M3 : Mem w _ [⟨w.heap.size, pcells f g, 59⟩, ⟨w.heap.size + 1, #[.bool false], 4⟩, ⟨W.heap.size, fcells f, 32⟩] := M2.cells 2 0 (fcells f).toList rfl (fcells f) ((M2.at 2 rfl).over (fcells f) (by rw [fcells_size, hzH.out]))
  clear M2 M hzH
  generalize World.setCells _ _ _ _ = W3 at M3 ⊢
  obtain ⟨b3, hb3⟩ : ∃ b3, b3 = W.heap.size := ⟨_, rfl⟩
  rw [← hb3] at M3 ⊢
  clear hb3
  gi_upto_region 3 with (first
    | (refine loadIn hfn rfl 25 _ rfl w.heap.size 304 rfl (acells .i16 100 g.S) _ (M3.at 0 rfl).lateSeeds Tryd.underlying25 rfl (by rw [acells_size]; exact sizeS) ?_)
    | (refine storeIn hfn rfl 25 _ _ rfl b3 102 (acells .i16 100 g.S) rfl rfl ((M3.at 2 rfl).there 102 _ (by rw [fcells_size, acells_size]; omega)) (by rw [acells_size]; exact sizeS) (acells_one _ _ _) ?_))
  have M4 : Mem w _ [⟨w.heap.size, pcells f g, 59⟩, ⟨w.heap.size + 1, #[.bool false], 4⟩, ⟨b3, fcells { f with S := g.S }, 32⟩] := M3.cells 2 102 (acells .i16 100 g.S).toList rfl (fcells { f with S := g.S }) ((M3.at 2 rfl).setSeeds g.S)
  clear M3
  generalize World.setCells _ _ _ _ = W4 at M4 ⊢
  have hws : Hid (({ f with S := g.S } : Fd).Wf) := Lib.hid (Fd.withS_wf hf hg)
  have hcmp := feq_emptied f g
  have HH1 := Lib.hid h1
  have HH2 := Lib.hid h2
  have HF := Lib.hid hf
  have HG := Lib.hid hg
  have hWs' := Lib.hid (inB_size hWs)
  have hHs' := Lib.hid (inB_size hHs)
  clear h1 h2 hf hg hWs hHs
  obtain ⟨em, hem⟩ : ∃ em : Fd, em = { f with S := g.S } := ⟨_, rfl⟩
  rw [← hem] at M4 hws hcmp
  clear hem
  cases hs : sameKB f g with
  | false =>
    rw [hs] at hcmp
    have d0 := (M4.at 1 rfl).cell (i := 0) (v := .bool false) rfl
    have e0 := (M4.at 1 rfl).free 0
    have Hc := Lib.hid hcmp
    clear hcmp
    gi_wp2_with (first
      | (refine loadIn hfn rfl 32 _ rfl b3 0 rfl (fcells em) _ (M4.at 2 rfl).whole Tryd.underlying32 rfl (by rw [fcells_size]; exact sizeFd) ?_)
      | (refine loadIn hfn rfl 32 _ rfl w.heap.size 202 rfl (fcells g) _ (M4.at 0 rfl).late Tryd.underlying32 rfl (by rw [fcells_size]; exact sizeFd) ?_)
      | (refine neqIn hfn rfl 32 _ _ _ rfl (fcells em) (fcells g) rfl rfl (by kernel_rfl) _ (run_equalIn_field _ _ hws.out HG.out _) ?_; rw [Hc.out, Bool.not_false]))
    have M5 := M4.set 1 0 (.bool false) rfl _ rfl
    exact ⟨.bool false, by have := (M5.at 1 rfl).cell (i := 0) (v := .bool false) rfl; simp [results, Tryd.results38, go_sem, this], by rw [hs, Bool.false_and], M5.below⟩
  | true =>
    rw [hs] at hcmp
    have Hc := Lib.hid hcmp
    have HS := Lib.hid hs
    clear hcmp hs
    gi_wp2_with (first
      | (refine loadIn hfn rfl 32 _ rfl b3 0 rfl (fcells em) _ (M4.at 2 rfl).whole Tryd.underlying32 rfl (by rw [fcells_size]; exact sizeFd) ?_)
      | (refine loadIn hfn rfl 32 _ rfl w.heap.size 202 rfl (fcells g) _ (M4.at 0 rfl).late Tryd.underlying32 rfl (by rw [fcells_size]; exact sizeFd) ?_)
      | (refine neqIn hfn rfl 32 _ _ _ rfl (fcells em) (fcells g) rfl rfl (by kernel_rfl) _ (run_equalIn_field _ _ hws.out HG.out _) ?_; rw [Hc.out, Bool.not_true])
      | (refine loadIn hfn rfl 59 _ rfl w.heap.size 0 rfl (pcells f g) _ (M4.at 0 rfl).whole Tryd.underlying59 rfl (by rw [pcells_size]; exact sizeP) ?_)
      | (gi_at_call 40; refine (callsIn_wide.2 (pairCells_any f g _)).mono ?_; rintro e w' ⟨rfl, rfl⟩))
    have M5 := (M4.alloc (pcells f g) 59).alloc (fcells f) 32
    obtain ⟨bi, hbi⟩ : ∃ bi, bi = W4.heap.size + 1 := ⟨_, rfl⟩
    rw [World.size_alloc, ← hbi] at M5
    generalize (W4.alloc _).alloc _ = W5 at M5 ⊢
    rw [← hbi]
    obtain ⟨bj, hbj⟩ : ∃ bj, bj = W4.heap.size := ⟨_, rfl⟩
    rw [← hbj] at M5
    clear hbi hbj M4
    have hsz : w.heap.size ≤ W5.heap.size := M5.below.size
    refine wpIn_rangeFunc_ownF rfl (by omega) (gf := 57) (lb := #[.pointer (some ⟨bi, 0, none⟩)]) rfl trivial (enters_of Tryd.func57 (by kernel_rfl) rfl)
      (cells_stops 2 bi f hWs'.out hHs'.out W5 (M5.at 4 rfl)) (fun h k => k.trans h)
      (fun W l o o' hl ho hc _ => World.putObj_heap_other (fun e => by
        have := (M5.at 4 rfl).lt
        omega))
      (Below.refl _ _) (fun _ => rfl)
      (fun pre W => Mem w W [⟨w.heap.size, pcells f g, 59⟩, ⟨w.heap.size + 1, #[.bool false], 4⟩, ⟨b3, fcells em, 32⟩, ⟨bj, pcells f g, 59⟩, ⟨bi, fcells f, 32⟩] ∧ ∀ c ∈ pre, g.S c.1 ≤ f.S c.1)
      (fun c _ W => c = Code.ret ∧ lessB f g = false ∧ Mem w W [⟨w.heap.size, pcells f g, 59⟩, ⟨w.heap.size + 1, #[.bool false], 4⟩, ⟨b3, fcells em, 32⟩, ⟨bj, pcells f g, 59⟩, ⟨bi, fcells f, 32⟩])
      (fun s A B row hs hg hr => ⟨hs.1.grown hsz hg hr, hs.2⟩)
      (fun c s A B row hs hg hr => ⟨hs.1, hs.2.1, hs.2.2.grown hsz hg hr⟩)
      ⟨M5, fun c hc => by cases hc⟩
      (fun x => { tmps := #[.agg (pcells f g), .pointer (some ⟨w.heap.size, 0, none⟩), .pointer (some ⟨w.heap.size + 1, 0, none⟩), .pointer (some ⟨b3, 0, none⟩), .int .i64 (x.1 : Int), .pointer (some ⟨w.heap.size, 0, none⟩), .pointer (some ⟨w.heap.size, 0, none⟩), .agg (fcells f), .pointer (some ⟨w.heap.size, 202, none⟩), .pointer (some ⟨w.heap.size, 202, none⟩), .pointer (some ⟨w.heap.size, 304, none⟩), .agg (acells .i16 100 g.S), .pointer (some ⟨b3, 102, none⟩), .agg (fcells em), .pointer (some ⟨w.heap.size, 202, none⟩), .pointer (some ⟨w.heap.size, 202, none⟩), .agg (fcells g), .bool false, .agg (pcells f g), .func (.func 57) #[] #[.pointer (some ⟨bi, 0, none⟩)], .int .i64 (x.1 : Int), undef, undef, undef, undef], defers := [] }) ?assign ?body ?done ?stop
    case assign =>
      intro l x W K hK
      gi_wp2
      exact hK
    case body =>
      rintro l pre x W6 ⟨M6, hall0⟩ _
      have hall := Lib.hid hall0
      clear hall0
      have hfn' : ∀ k, (Fence.wide.inRound l).fn k := fun _ => trivial
      have hdep' : (Fence.wide.inRound l).depth.isSome = false := rfl
      have hx := isCell_lt x.2
      by_cases hle : g.S x.1 ≤ f.S x.1
      · have hnl : ¬ lossN f g x.1 < 0 := by unfold lossN; omega
        gi_wp2_with (first
          | (refine loadIn hfn' rfl 59 _ rfl w.heap.size 0 rfl (pcells f g) _ (M6.at 0 rfl).whole Tryd.underlying59 rfl (by rw [pcells_size]; exact sizeP) ?_)
          | (gi_at_call 42; refine (CallsIn.inRound l (callsIn_wide.2 (loss_any f g HF.out HG.out x.1 hx _))).mono ?_; rintro e W7 ⟨rfl, hb7⟩; have M7 := M6.call hb7))
        refine ⟨KeepsOthers.of_below hb7, M6.same M7 4 4 rfl rfl, M7, ?_⟩
        intro c hc
        rcases List.mem_append.1 hc with hc | hc
        · exact hall.out c hc
        · have : c = x := by simpa using hc
          rw [this]; exact hle
      · have hl : lossN f g x.1 < 0 := by unfold lossN; omega
        have hbad := Lib.hid (lessB_bad hx (show f.S x.1 < g.S x.1 by omega))
        clear hle
        gi_upto_region 8 with (first
          | (refine loadIn hfn' rfl 59 _ rfl w.heap.size 0 rfl (pcells f g) _ (M6.at 0 rfl).whole Tryd.underlying59 rfl (by rw [pcells_size]; exact sizeP) ?_)
          | (gi_at_call 42; refine (CallsIn.inRound l (callsIn_wide.2 (loss_any f g HF.out HG.out x.1 hx _))).mono ?_; rintro e W7 ⟨rfl, hb7⟩; have M7 := M6.call hb7))
        have d0 := (M7.at 1 rfl).cell (i := 0) (v := .bool false) rfl
        have e0 := (M7.at 1 rfl).free 0
        gi_wp2
        exact ⟨(KeepsOthers.of_below hb7).trans (KeepsOthers.setCell _ _ _), rfl, hbad.out, M7.set 1 0 (.bool false) rfl _ rfl⟩
    case done =>
      rintro D xs W6 hD rfl ⟨M6, hall0⟩ hK
      have hfin := Lib.hid (lessB_of_cells HH1.out HH2.out HS.out hall0)
      clear hall0
      have d0 := (M6.at 1 rfl).cell (i := 0) (v := .bool false) rfl
      have e0 := (M6.at 1 rfl).free 0
      gi_wp2
      have M7 := M6.set 1 0 (.bool true) rfl #[.bool true] rfl
      have hK' := (KeepsOthers.setCell W6 ⟨w.heap.size + 1, 0, none⟩ (.bool true)).same D _ hK rfl
      refine ⟨by simp, .inl ⟨_, _, rfl, run_takeDeferred hK', ?_⟩⟩
      have M8 := M7.taken (o' := .deferred none) (Nat.le_trans hsz hD) hK' rfl
      exact ⟨.bool true, by have := (M8.at 1 rfl).cell (i := 0) (v := .bool true) rfl; simp [results, Tryd.results38, go_sem, this], by rw [HS.out, hfin.out]; rfl, M8.below⟩
    case stop =>
      rintro D c pre W6 hD _ ⟨rfl, hbad, M6⟩ hK
      have Hb := Lib.hid hbad
      clear hbad
      gi_wp2
      refine ⟨by simp, .inl ⟨_, _, rfl, run_takeDeferred hK, ?_⟩⟩
      have M7 := M6.taken (o' := .deferred none) (Nat.le_trans hsz hD) hK rfl
      exact ⟨.bool false, by have := (M7.at 1 rfl).cell (i := 0) (v := .bool false) rfl; simp [results, Tryd.results38, go_sem, this], by rw [Hb.out, Bool.and_false], M7.below⟩
end Go.Proofs.YtgnfpmpjmliegaaDoor
