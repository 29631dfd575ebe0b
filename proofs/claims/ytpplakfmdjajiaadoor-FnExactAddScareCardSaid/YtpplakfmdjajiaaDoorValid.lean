/-
  The program's ValidField answers as the model's test.
-/
import Derived.Test.YtpplakfmdjajiaaDoorIter
import Derived.Test.YtpplakfmdjajiaaDoorIn
import Derived.Test.YtpplakfmdjajiaaDoorEq
import Derived.Sort.CutIn
namespace Go.Proofs.YtpplakfmdjajiaaDoor
open Go Go.RowKit Go.Shelf
attribute [local go_sem] Oper.semAt_some

theorem inB_size {n : Int} (h : inB n 1 10 = true) : 0 ≤ n ∧ n ≤ 10 := by have := inB_iff.1 h; omega

set_option maxRecDepth 100000 in
set_option maxHeartbeats 4000000 in
theorem validField_no (f : Fd) (hf : f.Wf) (h : inB f.W 1 10 = false ∨ inB f.H 1 10 = false) (w : World) : Calls Tryd.prog 114 #[.agg (fcells f)] w fun e w' => e = .returned (.bool false) ∧ Below w.heap.size w w' := by
  have c0 := fcells_0 f
  have c1 := fcells_1 f
  obtain ⟨hW1, hW2⟩ := hf.W
  obtain ⟨hH1, hH2⟩ := hf.H
  cases h1 : inB f.W 1 10 with
  | false =>
    clear h
    go_enter Tryd.func114, Tryd.ntmps114
    go_wp2_with (go_at_call 129; refine (isSize_any _ _).mono ?_; rintro e w' ⟨rfl, rfl⟩)
    exact bodyPost_ret (v := .bool false) (by simp [results, Tryd.results114, go_sem]) rfl ⟨rfl, ((Below.refl _ _).alloc (Nat.le_refl _) _).alloc (by simp) _⟩
  | true =>
    have h2 : inB f.H 1 10 = false := by rcases h with h | h; (rw [h1] at h; cases h); exact h
    clear h
    go_enter Tryd.func114, Tryd.ntmps114
    go_wp2_with (go_at_call 129; refine (isSize_any _ _).mono ?_; rintro e w' ⟨rfl, rfl⟩)
    exact bodyPost_ret (v := .bool false) (by simp [results, Tryd.results114, go_sem]) rfl ⟨rfl, ((Below.refl _ _).alloc (Nat.le_refl _) _).alloc (by simp) _⟩

/-- What is outside of some cells: those are struck. -/
def outside (f : Fd) (l : List (CellOf f)) : Fd := l.foldl (fun g c => (g.setK c.1 0).setS c.1 0) f
theorem outside_snoc (f : Fd) (l : List (CellOf f)) (c : CellOf f) : outside f (l ++ [c]) = ((outside f l).setK c.1 0).setS c.1 0 := by simp [outside, List.foldl_append]
theorem outside_W {f : Fd} (l : List (CellOf f)) : (outside f l).W = f.W ∧ (outside f l).H = f.H := by
  suffices ∀ (l : List (CellOf f)) (g : Fd), (l.foldl (fun g c => (g.setK c.1 0).setS c.1 0) g).W = g.W ∧ (l.foldl (fun g c => (g.setK c.1 0).setS c.1 0) g).H = g.H from this l f
  intro l
  induction l with
  | nil => intro g; exact ⟨rfl, rfl⟩
  | cons c l ih => intro g; exact ih _
theorem outside_at {f : Fd} (n k : Nat) : (outside f (cellsTo f n)).K k = (if k < n ∧ isCell f k = true then 0 else f.K k) ∧ (outside f (cellsTo f n)).S k = (if k < n ∧ isCell f k = true then 0 else f.S k) := by
  induction n with
  | zero => simp [cellsTo, outside]
  | succ n ih =>
    by_cases h : isCell f n = true
    · rw [cellsTo_yes h, outside_snoc]
      simp only [Fd.setS, Fd.setK]
      by_cases e : k = n
      · subst e; simp [h]
      · have e1 : (k < n + 1 ∧ isCell f k = true) ↔ (k < n ∧ isCell f k = true) := by constructor <;> (rintro ⟨a, b⟩; exact ⟨by omega, b⟩)
        rw [if_neg e, if_neg e, ih.1, ih.2]
        simp only [e1, and_self]
    · have h' : isCell f n = false := by simpa using h
      rw [cellsTo_no h', ih.1, ih.2]
      by_cases e : k = n
      · subst e; simp [h']
      · have e1 : (k < n + 1 ∧ isCell f k = true) ↔ (k < n ∧ isCell f k = true) := by constructor <;> (rintro ⟨a, b⟩; exact ⟨by omega, b⟩)
        simp only [e1, and_self]
/-- The field of these sizes without kinds and seeds. -/
def Fd.bare (a b : Int) : Fd := ⟨a, b, fun _ => 0, fun _ => 0⟩
theorem spotOk_cell {f : Fd} {k : Nat} (h : isCell f k = true) : cellOk f k = spotOk (f.K k) (f.S k) := by
  unfold cellOk spotOk
  rw [h]
  by_cases h0 : f.K k = 0
  · rw [if_pos h0, h0]; simp [inB]
  · rw [if_neg h0]
    have h0' : (f.K k == 0) = false := by simpa using h0
    rw [h0']
    by_cases h1 : f.S k = 0
    · simp [h1, inB]
    · have h1' : (f.S k == 0) = false := by simpa using h1
      simp [h1']
theorem okF_of_outside {f : Fd} (h1 : inB f.W 1 10 = true) (h2 : inB f.H 1 10 = true) (hall : ∀ c ∈ cellsTo f 100, spotOk (f.K c.1) (f.S c.1) = true) : feq (outside f (cellsTo f 100)) (Fd.bare f.W f.H) = okF f := by
  unfold okF feq
  rw [h1, h2, (outside_W (cellsTo f 100)).1, (outside_W (cellsTo f 100)).2]
  simp only [Fd.bare, beq_self_eq_true, Bool.true_and]
  refine allTo_congr (fun k hk => ?_)
  rw [(outside_at 100 k).1, (outside_at 100 k).2]
  by_cases h : isCell f k = true
  · rw [if_pos ⟨hk, h⟩, if_pos ⟨hk, h⟩, spotOk_cell h, hall ⟨k, h⟩ (cellsTo_mem.2 hk)]; rfl
  · have h' : isCell f k = false := by simpa using h
    rw [if_neg (fun c => h c.2), if_neg (fun c => h c.2)]
    unfold cellOk
    rw [h']
    by_cases h0 : f.K k = 0
    · by_cases h3 : f.S k = 0
      · simp [h0, h3, inB]
      · have h3' : (f.S k == 0) = false := by simpa using h3
        simp [h3']
    · have h0' : (f.K k == 0) = false := by simpa using h0
      simp [h0']
theorem okF_bad {f : Fd} {k : Nat} (h : isCell f k = true) (hb : spotOk (f.K k) (f.S k) = false) : okF f = false := by
  unfold okF
  rw [allTo_false (isCell_lt h) (by rw [spotOk_cell h, hb])]
  simp

theorem outside_wf {f : Fd} (hf : f.Wf) (l : List (CellOf f)) : (outside f l).Wf := by
  suffices ∀ (l : List (CellOf f)) (g : Fd), g.Wf → (l.foldl (fun g c => (g.setK c.1 0).setS c.1 0) g).Wf from this l f hf
  intro l
  induction l with
  | nil => intro g hg; exact hg
  | cons c l ih =>
    intro g hg
    refine ih _ ⟨hg.W, hg.H, fun i hi => ?_, fun i hi => ?_⟩
    · simp only [Fd.setS, Fd.setK]; split
      · omega
      · exact hg.K i hi
    · simp only [Fd.setS, Fd.setK]; split
      · omega
      · exact hg.S i hi
theorem wide_round (l k : Nat) : (Fence.wide.inRound l).fn k := trivial

set_option maxRecDepth 100000 in
set_option maxHeartbeats 8000000 in
theorem validField_yes (f : Fd) (hf : f.Wf) (h1 : inB f.W 1 10 = true) (h2 : inB f.H 1 10 = true) (w : World) : Calls Tryd.prog 114 #[.agg (fcells f)] w fun e w' => e = .returned (.bool (okF f)) ∧ Below w.heap.size w w' := by
  have hdep : Fence.wide.depth.isSome = false := rfl
  have hfn : ∀ k, Fence.wide.fn k := fun _ => trivial
  obtain ⟨hW1, hW2⟩ := hf.W
  obtain ⟨hH1, hH2⟩ := hf.H
  refine (callsIn_wide (n := 3)).1 ?_
  refine callsIn_of_wp_marks Tryd.func114 rfl trivial ?_ rfl
  simp only [Tryd.ntmps114, List.size_toArray, List.length_cons, List.length_nil, Nat.reduceAdd, Nat.reduceSub, Array.replicate_succ, Array.replicate_zero, List.push_toArray, List.append_toArray, List.nil_append, List.cons_append]
  gi_upto_region 1 with (fail)
  obtain ⟨W, hW, M⟩ := open2 w (fcells f) 32 #[.bool false] 4
  rw [hW]; clear hW
  have c0 := (M.at 0 rfl).cell (fcells_0 f)
  have c1 := (M.at 0 rfl).cell (fcells_1 f)
  gi_upto_region 3 with (gi_at_call 129; refine (callsIn_wide.2 (isSize_any _ _)).mono ?_; rintro e w' ⟨rfl, rfl⟩)
  clear c0 c1
  have M2 := M.alloc Tryd.zeroCells32 32
  have hz : Tryd.zeroCells32.size = 202 := by rw [zeroFd, fcells_size]
  have hzH : Hid (Tryd.zeroCells32.size = 202) := hz
  clear hz
  gi_upto_region 4 with (first
    | (refine loadIn hfn rfl 32 _ rfl w.heap.size 0 rfl (fcells f) _ (M.at 0 rfl).whole Tryd.underlying32 rfl (by rw [fcells_size]; exact sizeFd) ?_)
    | (refine storeIn hfn rfl 32 _ _ rfl W.heap.size 0 (fcells f) rfl rfl ((M2.at 2 rfl).there 0 _ (by rw [fcells_size, hzH.out]; omega)) (by rw [fcells_size]; exact sizeFd) (fcells_one _) ?_))
  have M3 : Mem w _ [⟨w.heap.size, fcells f, 32⟩, ⟨w.heap.size + 1, #[.bool false], 4⟩, ⟨W.heap.size, fcells f, 32⟩] := M2.cells 2 0 (fcells f).toList rfl (fcells f) ((M2.at 2 rfl).over (fcells f) (by rw [fcells_size, hzH.out]))
  clear M2 M hzH
  generalize World.setCells _ _ _ _ = W3 at M3 ⊢
  obtain ⟨b3, hb3⟩ : ∃ b3, b3 = W.heap.size := ⟨_, rfl⟩
  rw [← hb3] at M3 ⊢
  clear hb3
  gi_wp2_with (first
    | (refine loadIn hfn rfl 32 _ rfl w.heap.size 0 rfl (fcells f) _ (M3.at 0 rfl).whole Tryd.underlying32 rfl (by rw [fcells_size]; exact sizeFd) ?_)
    | (gi_at_call 51; refine (callsIn_wide.2 (cellsIn_any f _)).mono ?_; rintro e w' ⟨rfl, rfl⟩))
  obtain ⟨bi, hbi⟩ : ∃ bi, bi = W3.heap.size := ⟨_, rfl⟩
  have M4 : Mem w (W3.alloc (Obj.cells (fcells f) 32)) [⟨w.heap.size, fcells f, 32⟩, ⟨w.heap.size + 1, #[.bool false], 4⟩, ⟨b3, fcells f, 32⟩, ⟨bi, fcells f, 32⟩] := by rw [hbi]; exact M3.alloc (fcells f) 32
  generalize W3.alloc _ = W4 at M4 ⊢
  rw [← hbi]
  clear hbi M3
  have hsz : w.heap.size ≤ W4.heap.size := M4.below.size
  refine wpIn_rangeFunc_ownF rfl (by omega) (gf := 94) (lb := #[.pointer (some ⟨bi, 0, none⟩)]) rfl trivial (enters_of Tryd.func94 (by kernel_rfl) rfl)
    (cells_stops 2 bi f (inB_size h1) (inB_size h2) W4 (M4.at 3 rfl)) (fun h k => k.trans h)
    (fun W l o o' hl ho hc _ => World.putObj_heap_other (fun e => by
      have := (M4.at 3 rfl).lt
      omega))
    (Below.refl _ _) (fun _ => rfl)
    (fun pre W => Mem w W [⟨w.heap.size, fcells f, 32⟩, ⟨w.heap.size + 1, #[.bool false], 4⟩, ⟨b3, fcells (outside f pre), 32⟩, ⟨bi, fcells f, 32⟩] ∧ ∀ c ∈ pre, spotOk (f.K c.1) (f.S c.1) = true)
    (fun c _ W => c = Code.ret ∧ okF f = false ∧ ∃ g, Mem w W [⟨w.heap.size, fcells f, 32⟩, ⟨w.heap.size + 1, #[.bool false], 4⟩, ⟨b3, fcells g, 32⟩, ⟨bi, fcells f, 32⟩])
    (fun s A B row hs hg hr => ⟨hs.1.grown hsz hg hr, hs.2⟩)
    (fun c s A B row hs hg hr => ⟨hs.1, hs.2.1, hs.2.2.choose, hs.2.2.choose_spec.grown hsz hg hr⟩)
    ⟨M4, fun c hc => by cases hc⟩
    (fun x => { tmps := #[.agg (fcells f), .pointer (some ⟨w.heap.size, 0, none⟩), .pointer (some ⟨w.heap.size + 1, 0, none⟩), .pointer (some ⟨b3, 0, none⟩), .int .i64 (x.1 : Int), .pointer (some ⟨w.heap.size, 0, none⟩), .int .i8 f.W, .int .i64 f.W, .bool true, .bool false, .bool false, .pointer (some ⟨w.heap.size, 1, none⟩), .int .i8 f.H, .int .i64 f.H, .bool true, .bool false, .bool false, .agg (fcells f), .agg (fcells f), .func (.func 94) #[] #[.pointer (some ⟨bi, 0, none⟩)], .int .i64 (x.1 : Int), undef, undef, undef, undef, undef, undef, undef, undef, undef, undef, undef, undef, undef, undef, undef, undef, undef, undef], defers := [] }) ?assign ?body ?done ?stop
  case assign =>
    intro l x W K hK
    gi_wp2
    exact hK
  case body =>
    rintro l pre x W5 ⟨M5, hall0⟩ _
    have hall : Hid (∀ c ∈ pre, spotOk (f.K c.1) (f.S c.1) = true) := hall0
    clear hall0
    have hfn' : ∀ k, (Fence.wide.inRound l).fn k := fun _ => trivial
    have hdep' : (Fence.wide.inRound l).depth.isSome = false := rfl
    have hx := isCell_lt x.2
    have hKx := hf.K x.1 hx
    have hSx := hf.S x.1 hx
    cases hsp : spotOk (f.K x.1) (f.S x.1) with
    | false =>
      have hbad : Hid (okF f = false) := okF_bad x.2 hsp
      gi_upto_region 7 with (first
      | (refine loadIn hfn' rfl 32 _ rfl w.heap.size 0 rfl (fcells f) _ (M5.at 0 rfl).whole Tryd.underlying32 rfl (by rw [fcells_size]; exact sizeFd) ?_)
      | (gi_at_call 130; refine (CallsIn.inRound l (callsIn_wide.2 (spotAt_any f x.1 hx _))).mono ?_; rintro e W6 ⟨rfl, hb6⟩; have M6 := M5.call hb6)
      | (gi_at_call 131; refine (CallsIn.inRound l (callsIn_wide.2 (isValid_any _ _ hKx hSx _))).mono ?_; rintro e W7 ⟨rfl, hb7⟩; have M7 := M6.call hb7))
      have d0 := (M7.at 1 rfl).cell (i := 0) (v := .bool false) rfl
      have e0 := (M7.at 1 rfl).free 0
      gi_wp2
      exact ⟨((KeepsOthers.of_below hb6).trans (KeepsOthers.of_below hb7)).trans (KeepsOthers.setCell _ _ _), rfl, hbad.out, _, M7.set 1 0 (.bool false) rfl _ rfl⟩
    | true =>
      have hok : Hid (spotOk (f.K x.1) (f.S x.1) = true) := hsp
      gi_upto_region 8 with (first
      | (refine loadIn hfn' rfl 32 _ rfl w.heap.size 0 rfl (fcells f) _ (M5.at 0 rfl).whole Tryd.underlying32 rfl (by rw [fcells_size]; exact sizeFd) ?_)
      | (gi_at_call 130; refine (CallsIn.inRound l (callsIn_wide.2 (spotAt_any f x.1 hx _))).mono ?_; rintro e W6 ⟨rfl, hb6⟩; have M6 := M5.call hb6)
      | (gi_at_call 131; refine (CallsIn.inRound l (callsIn_wide.2 (isValid_any _ _ hKx hSx _))).mono ?_; rintro e W7 ⟨rfl, hb7⟩; have M7 := M6.call hb7))
      have d0 := (M7.at 2 rfl).cell (fcells_K (outside f pre) x.1 hx)
      have d1 := (M7.at 2 rfl).cell (fcells_S (outside f pre) x.1 hx)
      have e0 := (M7.at 2 rfl).free (2 + x.1)
      have e1 := (M7.at 2 rfl).free (102 + x.1)
      gi_wp2
      have M8 := (M7.set 2 (2 + x.1) (.int .u8 0) rfl _ (fcells_setK (outside f pre) x.1 0 hx)).set 2 (102 + x.1) (.int .i16 0) rfl _ (fcells_setS _ x.1 0 hx)
      refine ⟨(((KeepsOthers.of_below hb6).trans (KeepsOthers.of_below hb7)).trans (KeepsOthers.setCell _ _ _)).trans (KeepsOthers.setCell _ _ _), M5.same M8 3 3 rfl rfl, ?_, ?_⟩
      · rw [outside_snoc]; exact M8
      · intro c hc
        rcases List.mem_append.1 hc with hc | hc
        · exact hall.out c hc
        · have : c = x := by simpa using hc
          rw [this]; exact hok.out
  case done =>
    rintro D xs W5 hD rfl ⟨M5, hall0⟩ hK
    have hfin : Hid (feq (outside f (cellsTo f 100)) (Fd.bare f.W f.H) = okF f) := okF_of_outside h1 h2 hall0
    clear hall0
    have c0 := (M5.at 0 rfl).cell (fcells_0 f)
    have c1 := (M5.at 0 rfl).cell (fcells_1 f)
    have d0 := (M5.at 1 rfl).cell (i := 0) (v := .bool false) rfl
    have e0 := (M5.at 1 rfl).free 0
    have gW : (outside f (cellsTo f 100)).Wf := outside_wf hf _
    have gB : (Fd.bare f.W f.H).Wf := ⟨hf.W, hf.H, fun _ _ => ⟨by simp [Fd.bare], by simp [Fd.bare]⟩, fun _ _ => ⟨by simp [Fd.bare], by simp [Fd.bare]⟩⟩
    gi_wp2_with (first
      | (refine loadIn hfn rfl 32 _ rfl b3 0 rfl (fcells (outside f (cellsTo f 100))) _ (M5.at 2 rfl).whole Tryd.underlying32 rfl (by rw [fcells_size]; exact sizeFd) ?_)
      | (refine buildIn hfn rfl 32 _ rfl #[(0, .int .i8 f.W), (1, .int .i8 f.H)] rfl (.agg (fcells (Fd.bare f.W f.H))) (by kernel_rfl) ?_)
      | (refine eqlIn hfn rfl 32 _ _ _ rfl (fcells (outside f (cellsTo f 100))) (fcells (Fd.bare f.W f.H)) rfl rfl (by kernel_rfl) _ (run_equalIn_field _ _ gW gB _) ?_))
    have M6 := M5.set 1 0 (.bool (feq (outside f (cellsTo f 100)) (Fd.bare f.W f.H))) rfl _ rfl
    rw [hfin.out] at M6 ⊢
    refine ⟨by simp, .inl ⟨_, _, rfl, run_takeDeferred ((KeepsOthers.setCell W5 ⟨w.heap.size + 1, 0, none⟩ _).same D _ hK rfl), ?_⟩⟩
    have M7 := M6.taken (o' := .deferred none) (Nat.le_trans hsz hD) ((KeepsOthers.setCell W5 ⟨w.heap.size + 1, 0, none⟩ _).same D _ hK rfl) rfl
    exact ⟨.bool (okF f), by have := (M7.at 1 rfl).cell (i := 0) (v := .bool (okF f)) rfl; simp [results, Tryd.results114, go_sem, this], rfl, M7.below⟩
  case stop =>
    rintro D c pre W5 hD _ ⟨rfl, hbad, g, M5⟩ hK
    have Hb : Hid (okF f = false) := hbad
    clear hbad
    gi_wp2
    rw [Hb.out]
    refine ⟨by simp, .inl ⟨_, _, rfl, run_takeDeferred hK, ?_⟩⟩
    have M7 := M5.taken (o' := .deferred none) (Nat.le_trans hsz hD) hK rfl
    exact ⟨.bool false, by have := (M7.at 1 rfl).cell (i := 0) (v := .bool false) rfl; simp [results, Tryd.results114, go_sem, this], rfl, M7.below⟩

theorem validField_any (f : Fd) (hf : f.Wf) (w : World) : Calls Tryd.prog 114 #[.agg (fcells f)] w fun e w' => e = .returned (.bool (okF f)) ∧ Below w.heap.size w w' := by
  cases h1 : inB f.W 1 10 with
  | false => rw [show okF f = false by simp [okF, h1]]; exact validField_no f hf (.inl h1) w
  | true =>
    cases h2 : inB f.H 1 10 with
    | false => rw [show okF f = false by simp [okF, h2]]; exact validField_no f hf (.inr h2) w
    | true => exact validField_yes f hf h1 h2 w
end Go.Proofs.YtpplakfmdjajiaaDoor
