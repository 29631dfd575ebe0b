/-
  BoundsOfLoss: the program's.
-/
import Derived.Test.YtpiejcibjphffaaDoorBound
namespace Go.Proofs.YtpiejcibjphffaaDoor
open Go Go.RowKit Go.Shelf
attribute [local go_sem] Oper.semAt_some

theorem lossIn_nums (f g : Fd) (hf : f.Wf) (hg : g.Wf) (h0 : pairCode f g = 0) (c : Nat → Int) (b : Nat) (w : World) (B : Blk w b (acells .u64 2 c) 38) :
    Calls Tryd.prog 41 #[.agg (pcells f g), .func (.func 78) #[] #[.pointer (some ⟨b, 0, none⟩)]] w fun e w' => e = .returned (.int .i64 (totTo (loN f g c) 100)) ∧ Below w.heap.size w w' := by
  obtain ⟨h1, h2, _, _⟩ := pairCode_fine h0
  rw [← totX_nums f g c 100 (by omega)]
  exact lossIn_gen (fun x : NumOf c => x.1) (fun x => x.2.1) 78 b (numsTo c 100) _ f g hf hg (fun i hi => lossN_in h1 h2 hi) (enters_of Tryd.func78 (by kernel_rfl) rfl) w B.lt ⟨_, _, B⟩
    (fun W hW => nums_stops 2 b c W (B.below hW B.lt))
theorem totL_in {f : Fd} {g : Nat → Int} (hg : ∀ i, i < 100 → 0 ≤ g i ∧ g i ≤ 1000) : ∀ n, n ≤ 100 → True := fun _ _ => trivial
set_option maxRecDepth 100000 in
set_option maxHeartbeats 8000000 in
theorem implBounds_ok (f g : Fd) (hf : f.Wf) (hg : g.Wf) (h0 : pairCode f g = 0) (c : Nat → Int) (A : Nat → Addr) (w : World) (S0 : Sents w A) : Calls Tryd.prog 31 #[.agg (fcells f), .agg (fcells g), .agg (acells .u64 2 c)] w fun e w' => e = .returned (.tuple #[.int .i64 (totTo (loN f g c) 100), .int .i64 (totTo (hiN f g c) 100), .int .i64 0]) ∧ Below w.heap.size w w' := by
  have S := Lib.hid S0
  have hp := Lib.hid h0
  obtain ⟨h1, h2, hs, _⟩ := pairCode_fine h0
  have H1 := Lib.hid h1
  obtain ⟨l1, l2⟩ := totTo_in (g := loN f g c) (a := -1000) (m := 1000) (n := 100) (by omega) (by omega) (fun i hi => loN_in h1 h2 hi)
  have hsplit := Lib.hid (hi_split f g c 100)
  have hall := Lib.hid (totL_to (f := f) (g := restN f c) (fun i hi hc => by unfold restN; split; rfl; exact ok_outS h1 hi hc) 100 (by omega))
  have hif := isIfaceErr
  have hWs : inB f.W 1 10 = true := by simp only [okF, Bool.and_eq_true] at h1; exact h1.1.1
  have hHs : inB f.H 1 10 = true := by simp only [okF, Bool.and_eq_true] at h1; exact h1.1.2
  have hWs' := Lib.hid (inB_size hWs)
  have hHs' := Lib.hid (inB_size hHs)
  have HF := Lib.hid hf
  have HG := Lib.hid hg
  clear S0 h0 h1 h2 hs hWs hHs
  obtain ⟨lo0, hlo0⟩ : ∃ x, totTo (loN f g c) 100 = x := ⟨_, rfl⟩
  rw [hlo0] at l1 l2 ⊢
  have HLO := Lib.hid hlo0
  clear hlo0
  have hdep : Fence.wide.depth.isSome = false := rfl
  have hfn : ∀ k, Fence.wide.fn k := fun _ => trivial
  refine (callsIn_wide (n := 3)).1 ?_
  refine callsIn_of_wp_marks Tryd.func31 rfl trivial ?_ rfl
  simp only [Tryd.ntmps31, List.size_toArray, List.length_cons, List.length_nil, Nat.reduceAdd, Nat.reduceSub, Array.replicate_succ, Array.replicate_zero, List.push_toArray, List.append_toArray, List.nil_append, List.cons_append]
  gi_upto_region 1 with (fail)
  obtain ⟨W, hW, M⟩ := open3 w (fcells f) 30 (fcells g) 30 (acells .u64 2 c) 38
  rw [hW]; clear hW
  refine wpIn_wide.2 ?_
  have ok1 : True := trivial
  have ok2 : True := trivial
  have hzp : Hid (Tryd.zeroCells67.size = 404) := Lib.hid (by rw [zeroP, pcells_size])
  go_upto_region 2 with (first
    | (clear ok1; (refine wpList_load_part rfl 30 _ rfl w.heap.size 0 rfl (fcells f) _ (M.at 0 rfl).whole Tryd.underlying30 rfl (by rw [fcells_size]; exact sizeFd) ?_))
    | (clear ok2; (refine wpList_load_part rfl 30 _ rfl (w.heap.size + 1) 0 rfl (fcells g) _ (M.at 1 rfl).whole Tryd.underlying30 rfl (by rw [fcells_size]; exact sizeFd) ?_))
    | (go_at_call 36; refine (pairOf_fine f g hf hg hp.out A _ (S.out.later M.below)).mono ?_; rintro e W2 ⟨rfl, hb⟩; have M2 := M.call hb; clear hb; have M3 := M2.alloc Tryd.zeroCells67 67)
    | (refine wpList_store_row rfl 67 _ _ rfl W2.heap.size (pcells f g) rfl rfl 67 _ (M3.at 3 rfl) (by rw [pcells_size]; exact sizeP) (by rw [pcells_size, hzp.out]) (pcells_one _ _) ?_))
  have M4 := M3.row 3 rfl (pcells f g)
  clear M M2 M3
  generalize World.setRow _ _ _ = W4 at M4 ⊢
  obtain ⟨b6, hb6⟩ : ∃ b6, b6 = W2.heap.size := ⟨_, rfl⟩
  rw [← hb6] at M4 ⊢
  clear hb6 hzp
  gi_upto_region 4 with (fail)
  refine wpIn_wide.2 ?_
  refine wp_region_rel (DL [dV (.agg (pcells f g)), dV (.agg (acells .u64 2 c)), dP (fun v lo _ w9 => v = .func (.func 78) #[] #[.pointer (some ⟨lo, 0, none⟩)] ∧ Blk w9 lo (acells .u64 2 c) 38), dV (.int .i64 lo0), dV (.int .i64 lo0)]) (fun w' => Mem w w' [⟨w.heap.size, fcells f, 30⟩, ⟨w.heap.size + 1, fcells g, 30⟩, ⟨w.heap.size + 1 + 1, acells .u64 2 c, 38⟩, ⟨b6, pcells f g, 67⟩]) (by kernel_rfl) (by kernel_rfl) grows_mem
    (stays_DL (fun d hd => by
      simp only [List.mem_cons, List.mem_nil_iff, or_false] at hd
      rcases hd with rfl | rfl | rfl | rfl | rfl <;> first | exact stay_V | exact stay_P)) M4.drew ?_
  refine rel_load 67 _ rfl b6 0 rfl (pcells f g) _ rfl rfl (fun w' hw' => (hw'.at 3 rfl).whole) Tryd.underlying67 rfl (by rw [pcells_size]; exact sizeP) (fun _ => ?_)
  simp only [Act.put, List.setIfInBounds_toArray, List.set_cons_zero, List.set_cons_succ]
  refine rel_load 38 _ rfl (w.heap.size + 1 + 1) 0 rfl (acells .u64 2 c) _ rfl rfl (fun w' hw' => (hw'.at 2 rfl).whole) Tryd.underlying38 rfl (by rw [acells_size]; exact sizeC) (fun _ => ?_)
  simp only [Act.put, List.setIfInBounds_toArray, List.set_cons_zero, List.set_cons_succ]
  refine rel_callP _ 58 #[.agg (acells .u64 2 c)] rfl rfl rfl rfl (enters_of Tryd.func58 (by kernel_rfl) rfl) (fun w' hw' => (numbersIn_any c w').mono (fun e w2 h => by
    obtain ⟨rfl, rfl⟩ := h
    refine ⟨_, rfl, (Below.refl _ _).alloc (Nat.le_refl _) _, fun w3 hb3 => ⟨rfl, ?_⟩⟩
    exact (Blk.new w' (acells .u64 2 c) 38).later hb3)) (fun v lo hi hle hv => ?_)
  obtain ⟨_, _, rfl, _⟩ := hv
  simp only [Act.put, List.setIfInBounds_toArray, List.set_cons_zero, List.set_cons_succ]
  refine rel_callK 2 (.int .i64 lo0) 41 #[.agg (pcells f g), .func (.func 78) #[] #[.pointer (some ⟨lo, 0, none⟩)]] rfl rfl rfl rfl (enters_of Tryd.func41 (by kernel_rfl) rfl) rfl rfl rfl rfl (fun w' hw' hx => by
    rw [← HLO.out]
    exact lossIn_nums f g HF.out HG.out hp.out c lo w' hx.1.2) (fun _ => ?_)
  simp only [Act.put, List.setIfInBounds_toArray, List.set_cons_zero, List.set_cons_succ]
  refine rel_val _ rfl rfl (fun _ _ => rfl) (fun _ => ?_)
  simp only [Act.put, List.setIfInBounds_toArray, List.set_cons_zero, List.set_cons_succ]
  refine rel_nil (fun W5 inv => ?_)
  have M5 := inv.cls
  clear inv M4
  gi_upto_region 6 with (fail)
  have M6 := M5.alloc #[.int .i64 lo0] 2
  obtain ⟨b12, hb12⟩ : ∃ b, b = W5.heap.size := ⟨_, rfl⟩
  rw [← hb12] at M6 ⊢
  generalize W5.alloc _ = W6 at M6 ⊢
  clear hb12 M5
  gi_wp2_with (first
    | (refine loadIn hfn rfl 67 _ rfl b6 0 rfl (pcells f g) _ (M6.at 3 rfl).whole Tryd.underlying67 rfl (by rw [pcells_size]; exact sizeP) ?_)
    | (gi_at_call 38; refine (callsIn_wide.2 (pairCells_any f g _)).mono ?_; rintro e w' ⟨rfl, rfl⟩))
  have M7 := (M6.alloc (pcells f g) 67).alloc (fcells f) 30
  obtain ⟨bi, hbi⟩ : ∃ bi, bi = W6.heap.size + 1 := ⟨_, rfl⟩
  rw [World.size_alloc, ← hbi] at M7
  generalize (W6.alloc _).alloc _ = W7 at M7 ⊢
  rw [← hbi]
  obtain ⟨bj, hbj⟩ : ∃ bj, bj = W6.heap.size := ⟨_, rfl⟩
  rw [← hbj] at M7
  clear hbi hbj M6
  have hsz : w.heap.size ≤ W7.heap.size := M7.below.size
  have M70 : Mem w W7 [⟨w.heap.size, fcells f, 30⟩, ⟨w.heap.size + 1, fcells g, 30⟩, ⟨w.heap.size + 1 + 1, acells .u64 2 c, 38⟩, ⟨b6, pcells f g, 67⟩, ⟨b12, #[.int .i64 (lo0 + totL (f := f) (restN f c) [])], 2⟩, ⟨bj, pcells f g, 67⟩, ⟨bi, fcells f, 30⟩] := by
    have e : lo0 + totL (f := f) (restN f c) [] = lo0 := by simp [totL]
    rw [e]; exact M7
  clear M7
  refine wpIn_rangeFunc_ownF rfl (by omega) (gf := 86) (lb := #[.pointer (some ⟨bi, 0, none⟩)]) rfl trivial (enters_of Tryd.func86 (by kernel_rfl) rfl)
    (cells_stops 2 bi f hWs'.out hHs'.out W7 (M70.at 6 rfl)) (fun h k => k.trans h)
    (fun W l o o' hl ho hc _ => World.putObj_heap_other (fun e => by
      have := (M70.at 6 rfl).lt
      omega))
    (Below.refl _ _) (fun _ => rfl)
    (fun pre W => Mem w W [⟨w.heap.size, fcells f, 30⟩, ⟨w.heap.size + 1, fcells g, 30⟩, ⟨w.heap.size + 1 + 1, acells .u64 2 c, 38⟩, ⟨b6, pcells f g, 67⟩, ⟨b12, #[.int .i64 (lo0 + totL (restN f c) pre)], 2⟩, ⟨bj, pcells f g, 67⟩, ⟨bi, fcells f, 30⟩] ∧ 0 ≤ totL (restN f c) pre ∧ totL (restN f c) pre ≤ 1000 * pre.length)
    (fun _ _ _ => False)
    (fun s A B row hs hg hr => ⟨hs.1.grown hsz hg hr, hs.2⟩)
    (fun c s A B row hs hg hr => hs)
    ⟨M70, by simp [totL], by simp [totL]⟩
    (fun x => { tmps := #[.agg (fcells f), .agg (fcells g), .agg (acells .u64 2 c), .pointer (some ⟨w.heap.size, 0, none⟩), .pointer (some ⟨w.heap.size + 1, 0, none⟩), .pointer (some ⟨w.heap.size + 1 + 1, 0, none⟩), .int .i64 0, .int .i64 0, .int .i64 0, .pointer (some ⟨b6, 0, none⟩), .nilIface, .int .i64 lo0, .pointer (some ⟨b12, 0, none⟩), .int .i64 (x.1 : Int), .tuple #[.agg (pcells f g), .nilIface], .agg (fcells f), .agg (fcells g), .tuple #[.agg (pcells f g), .nilIface], .agg (pcells f g), .nilIface, .nilIface, .bool false, undef, undef, .agg (pcells f g), .agg (acells .u64 2 c), .func (.func 78) #[] #[.pointer (some ⟨lo, 0, none⟩)], .int .i64 lo0, .int .i64 lo0, .agg (pcells f g), .func (.func 86) #[] #[.pointer (some ⟨bi, 0, none⟩)], .int .i64 (x.1 : Int), undef, undef, undef, undef, undef, undef, undef, undef, undef, undef, undef, undef], defers := [] }) ?assign ?body ?done ?stop
  case assign =>
    intro l x W K hK
    gi_wp2
    exact hK
  case body =>
    rintro l pre x W71 ⟨M71, hs1, hs2⟩ hlen
    have hfn' : ∀ k, (Fence.wide.inRound l).fn k := fun _ => trivial
    have hdep' : (Fence.wide.inRound l).depth.isSome = false := rfl
    have hx := isCell_lt x.2
    have hr := restN_in (c := c) H1.out hx
    have hlen' : pre.length < 100 := hlen
    have hsn := Lib.hid (totL_snoc (restN f c) pre x)
    cases hc : hasC c (x.1 : Int) with
    | true =>
      have e0 := Lib.hid (show restN f c x.1 = 0 by unfold restN; rw [if_pos hc])
      gi_wp2_with (first
        | (refine loadIn hfn' rfl 38 _ rfl (w.heap.size + 1 + 1) 0 rfl (acells .u64 2 c) _ (M71.at 2 rfl).whole Tryd.underlying38 rfl (by rw [acells_size]; exact sizeC) ?_)
        | (gi_at_call 60; refine (CallsIn.inRound l (callsIn_wide.2 (hasCell_any c x.1 _))).mono ?_; rintro e W8 ⟨rfl, hb8⟩; rw [hc]; have M8 := M71.call hb8))
      refine ⟨KeepsOthers.of_below hb8, M71.same M8 6 6 rfl rfl, ?_, ?_, ?_⟩
      · rw [hsn.out, e0.out, Int.add_zero]; exact M8
      · rw [hsn.out, e0.out]; omega
      · rw [hsn.out, e0.out, List.length_append]; simp; omega
    | false =>
      have e0 := Lib.hid (show restN f c x.1 = f.S x.1 by unfold restN; rw [if_neg (by rw [hc]; decide)])
      rw [e0.out] at hr
      gi_upto_region 9 with (first
        | (refine loadIn hfn' rfl 38 _ rfl (w.heap.size + 1 + 1) 0 rfl (acells .u64 2 c) _ (M71.at 2 rfl).whole Tryd.underlying38 rfl (by rw [acells_size]; exact sizeC) ?_)
        | (gi_at_call 60; refine (CallsIn.inRound l (callsIn_wide.2 (hasCell_any c x.1 _))).mono ?_; rintro e W8 ⟨rfl, hb8⟩; rw [hc]; have M8 := M71.call hb8))
      have hw2 : IntKind.i64.wrap (lo0 + totL (restN f c) pre + f.S x.1) = lo0 + totL (restN f c) pre + f.S x.1 := IntWalk.i64_in _ (by omega)
      refine wpIn_region_rel_tail 6 (DL [dV (.int .i64 (lo0 + totL (restN f c) pre)), dV (.pointer (some ⟨b6, 0, none⟩)), dV (.agg (fcells f)), dV (.int .i64 (x.1 : Int)), dV (.int .i64 (f.S x.1)), dV (.int .i64 (lo0 + totL (restN f c) pre + f.S x.1))]) (fun w' => Mem w w' [⟨w.heap.size, fcells f, 30⟩, ⟨w.heap.size + 1, fcells g, 30⟩, ⟨w.heap.size + 1 + 1, acells .u64 2 c, 38⟩, ⟨b6, pcells f g, 67⟩, ⟨b12, #[.int .i64 (lo0 + totL (restN f c) pre)], 2⟩, ⟨bj, pcells f g, 67⟩, ⟨bi, fcells f, 30⟩] ∧ Below W8.heap.size W8 w') hfn' hdep' (by kernel_rfl) (fun f' args w' R h => CallsIn.inRound l (callsIn_wide.2 h)) (by kernel_rfl) (by kernel_rfl) grows_memB
        (stays_DL (fun d hd => by
          simp only [List.mem_cons, List.mem_nil_iff, or_false] at hd
          rcases hd with rfl | rfl | rfl | rfl | rfl | rfl <;> exact stay_V)) ⟨M8.drew, (Below.refl _ _).drew⟩ ?_
      refine rel_cell 2 _ rfl (b12) (0) rfl (.int .i64 (lo0 + totL (restN f c) pre)) rfl rfl (fun w' c => load_w64 _ _ _ w' c) (fun w' hw' => (hw'.1.at 4 rfl).cell (i := 0) rfl) (fun _ => ?_)
      simp only [Act.put, List.setIfInBounds_toArray, List.set_cons_zero, List.set_cons_succ]
      refine rel_val (.pointer (some ⟨b6, 0, none⟩)) rfl rfl (fun _ _ => rfl) (fun _ => ?_)
      simp only [Act.put, List.setIfInBounds_toArray, List.set_cons_zero, List.set_cons_succ]
      refine rel_load 64 _ rfl b6 0 rfl (fcells f) _ rfl rfl (fun w' hw' => (hw'.1.at 3 rfl).early) Tryd.underlying64 rfl (by rw [fcells_size]; exact sizeEa) (fun _ => ?_)
      simp only [Act.put, List.setIfInBounds_toArray, List.set_cons_zero, List.set_cons_succ]
      refine rel_val _ rfl rfl (fun _ _ => rfl) (fun _ => ?_)
      simp only [Act.put, List.setIfInBounds_toArray, List.set_cons_zero, List.set_cons_succ]
      refine rel_call (.int .i64 (f.S x.1)) 61 #[.agg (fcells f), .int .i64 (x.1 : Int)] rfl rfl rfl rfl (enters_of Tryd.func61 (by kernel_rfl) rfl) (fun w' _ => had_any f x.1 hx (HF.out.S x.1 hx) w') (fun _ => ?_)
      simp only [Act.put, List.setIfInBounds_toArray, List.set_cons_zero, List.set_cons_succ]
      refine rel_val (.int .i64 (lo0 + totL (restN f c) pre + f.S x.1)) rfl rfl (fun w' _ => by simp [execOp, Act.eval, go_sem, hw2]) (fun _ => ?_)
      simp only [Act.put, List.setIfInBounds_toArray, List.set_cons_zero, List.set_cons_succ]
      refine rel_nil (fun w' inv => ?_)
      have M9 := inv.cls.1
      have B9 := inv.cls.2
      clear inv
      change wpListIn _ _ _ _ _ (_ :: []) _ _
      have e4 := (M9.at 4 rfl).free 0
      have c4 := (M9.at 4 rfl).cell (i := 0) rfl
      clear hw2
      gi_wp2
      have M10 := M9.set 4 0 (.int .i64 (lo0 + totL (restN f c) pre + f.S x.1)) rfl #[.int .i64 (lo0 + totL (restN f c) pre + f.S x.1)] rfl
      refine ⟨((KeepsOthers.of_below hb8).trans (KeepsOthers.of_below B9)).trans (KeepsOthers.setCell _ _ _), M71.same M10 6 6 rfl rfl, ?_, ?_, ?_⟩
      · rw [hsn.out, e0.out, ← Int.add_assoc]; exact M10
      · rw [hsn.out, e0.out]; omega
      · rw [hsn.out, e0.out, List.length_append]; simp; omega
  case done =>
    rintro D xs W8 hD rfl ⟨M8, h1, h2⟩ hK
    rw [hall.out] at M8
    clear h1 h2
    gi_wp2
    refine wpIn_wide.2 ?_
    refine wp_region_rel (DL [dV (.int .i64 lo0), dV (.int .i64 (lo0 + totTo (restN f c) 100)), dV (.int .i64 lo0), dV (.int .i64 (lo0 + totTo (restN f c) 100)), dV (.int .i64 0)]) (fun w' => Mem w w' [⟨w.heap.size, fcells f, 30⟩, ⟨w.heap.size + 1, fcells g, 30⟩, ⟨w.heap.size + 1 + 1, acells .u64 2 c, 38⟩, ⟨b6, pcells f g, 67⟩, ⟨b12, #[.int .i64 (lo0 + totTo (restN f c) 100)], 2⟩, ⟨bj, pcells f g, 67⟩, ⟨bi, fcells f, 30⟩] ∧ Below W8.heap.size W8 w') (by kernel_rfl) (by kernel_rfl) grows_memB
      (stays_DL (fun d hd => by
        simp only [List.mem_cons, List.mem_nil_iff, or_false] at hd
        rcases hd with rfl | rfl | rfl | rfl | rfl <;> exact stay_V)) ⟨M8.drew, (Below.refl _ _).drew⟩ ?_
    refine rel_val _ rfl rfl (fun _ _ => rfl) (fun _ => ?_)
    simp only [Act.put, List.setIfInBounds_toArray, List.set_cons_zero, List.set_cons_succ]
    refine rel_cell 2 _ rfl (b12) (0) rfl (.int .i64 (lo0 + totTo (restN f c) 100)) rfl rfl (fun w' c => load_w64 _ _ _ w' c) (fun w' hw' => (hw'.1.at 4 rfl).cell (i := 0) rfl) (fun _ => ?_)
    simp only [Act.put, List.setIfInBounds_toArray, List.set_cons_zero, List.set_cons_succ]
    refine rel_val _ rfl rfl (fun _ _ => rfl) (fun _ => ?_)
    simp only [Act.put, List.setIfInBounds_toArray, List.set_cons_zero, List.set_cons_succ]
    refine rel_val _ rfl rfl (fun _ _ => rfl) (fun _ => ?_)
    simp only [Act.put, List.setIfInBounds_toArray, List.set_cons_zero, List.set_cons_succ]
    refine rel_val _ rfl rfl (fun _ _ => rfl) (fun _ => ?_)
    simp only [Act.put, List.setIfInBounds_toArray, List.set_cons_zero, List.set_cons_succ]
    refine rel_nil (fun W9 inv => ?_)
    have M9 := inv.cls.1
    have hK9 := (inv.cls.2.block D (Array.getElem?_eq_some_iff.1 hK).1).trans hK
    clear inv
    gi_wp2
    refine ⟨by simp, .inl ⟨_, _, rfl, run_takeDeferred hK9, ?_⟩⟩
    have M10 := M9.taken (o' := .deferred none) (Nat.le_trans hsz hD) hK9 rfl
    exact ⟨.tuple #[.int .i64 lo0, .int .i64 (lo0 + totTo (restN f c) 100), .int .i64 0], by simp [results, Tryd.results31, go_sem], by rw [hsplit.out, HLO.out], M10.below⟩
  case stop =>
    rintro D c pre W5 hD _ h hK
    exact h.elim
set_option maxRecDepth 100000 in
set_option maxHeartbeats 8000000 in
theorem implBoundsOfLoss (f g : Fd) (hf : f.Wf) (hg : g.Wf) (c : Nat → Int) (A : Nat → Addr) (w : World) (S0 : Sents w A) : Calls Tryd.prog 31 #[.agg (fcells f), .agg (fcells g), .agg (acells .u64 2 c)] w fun e w' => e = .returned (.tuple #[.int .i64 (boundLo f g c), .int .i64 (boundHi f g c), .int .i64 (pairCode f g)]) ∧ Below w.heap.size w w' := by
  unfold boundLo boundHi
  by_cases h : pairCode f g = 0
  · rw [if_pos h, if_pos h, h]; exact implBounds_ok f g hf hg h c A w S0
  · rw [if_neg h, if_neg h]
    have S := Lib.hid S0
    clear S0
    obtain ⟨et, ev, hcall, hcode⟩ := pairOf_err f g hf hg h
    have hif := isIfaceErr
    clear h
    go_enter Tryd.func31, Tryd.ntmps31
    go_upto_region 1 with (fail)
    obtain ⟨W, hW, M⟩ := open3 w (fcells f) 30 (fcells g) 30 (acells .u64 2 c) 38
    rw [hW]; clear hW
    have ok1 : True := trivial
    have ok2 : True := trivial
    have hzp : Hid (Tryd.zeroCells67.size = 404) := Lib.hid (by rw [zeroP, pcells_size])
    go_upto_region 2 with (first
      | (clear ok1; (refine wpList_load_part rfl 30 _ rfl w.heap.size 0 rfl (fcells f) _ (M.at 0 rfl).whole Tryd.underlying30 rfl (by rw [fcells_size]; exact sizeFd) ?_))
      | (clear ok2; (refine wpList_load_part rfl 30 _ rfl (w.heap.size + 1) 0 rfl (fcells g) _ (M.at 1 rfl).whole Tryd.underlying30 rfl (by rw [fcells_size]; exact sizeFd) ?_))
      | (go_at_call 36; refine (hcall A _ (S.out.later M.below)).mono ?_; rintro e W2 ⟨rfl, hb⟩; have M2 := M.call hb; clear hb; have M3 := M2.alloc Tryd.zeroCells67 67)
      | (refine wpList_store_row rfl 67 _ _ rfl W2.heap.size (pcells Fd.zero Fd.zero) rfl rfl 67 _ (M3.at 3 rfl) (by rw [pcells_size]; exact sizeP) (by rw [pcells_size, hzp.out]) (pcells_one _ _) ?_))
    have M4 := M3.row 3 rfl (pcells Fd.zero Fd.zero)
    clear M M2 M3
    generalize World.setRow _ _ _ = W4 at M4 ⊢
    obtain ⟨b6, hb6⟩ : ∃ b6, b6 = W2.heap.size := ⟨_, rfl⟩
    rw [← hb6] at M4 ⊢
    clear hb6 hzp
    go_wp2_with (go_at_call 37; refine (hcode A _ (S.out.later M4.below)).mono ?_; rintro e W5 ⟨rfl, hb⟩; have M5 := M4.call hb; clear hb)
    go_ret3
    exact ⟨rfl, M5.below⟩
end Go.Proofs.YtpiejcibjphffaaDoor
