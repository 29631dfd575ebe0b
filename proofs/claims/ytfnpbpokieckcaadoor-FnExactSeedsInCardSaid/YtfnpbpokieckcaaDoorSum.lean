/-
  SeedsIn: the model's, the program's.
-/
import Derived.Test.YtfnpbpokieckcaaDoorTurn
import Derived.Test.YtfnpbpokieckcaaDoorBirds
import Derived.BigRegionIn
namespace Go.Proofs.YtfnpbpokieckcaaDoor
open Go Go.RowKit Go.Shelf
attribute [local go_sem] Oper.semAt_some

def seedsIn (f : Fd) : Int := if okF f then sumTo f.S 100 else 0
def fieldCode (f : Fd) : Int := if okF f then 0 else 1
set_option maxRecDepth 100000 in
set_option maxHeartbeats 1000000 in
theorem l01Sum_any (f : Fd) (hok : okF f = true) (b : Nat) (w : World) (B : Blk w b (fcells f) 28) :
    Calls Tryd.prog 49 #[.pointer (some ⟨b, 0, none⟩)] w fun e w' => e = .returned (.int .i64 (sumTo f.S 100)) ∧ w = w' := by
  have HB := Lib.hid B
  clear B
  go_enter Tryd.func49, Tryd.ntmps49
  go_wp2_with fail
  go_loop [3, 4] (fun s i => ∃ k : Nat, k ≤ 100 ∧ i = .int .i64 k ∧ s = .int .i64 (sumTo f.S k)) (fun _ i => 100 - (intOf i).toNat)
  case atStart => exact ⟨0, by omega, rfl, rfl⟩
  case round =>
    obtain ⟨k, hk, rfl, rfl⟩ := hrel
    obtain ⟨hs1, hs2⟩ := sumTo_in (g := f.S) (m := 1000) (n := k) (fun i hi => ok_seeds hok (by omega))
    by_cases hlt : k < 100
    · have cS := HB.out.cell (fcells_S f k hlt)
      obtain ⟨hb1, hb2⟩ := ok_seeds hok hlt
      go_wp2_with fail
      go_round
      case rel => exact ⟨k + 1, by omega, by go_num, by rw [sumTo_succ]⟩
      case measure => simp [intOf]; omega
    · obtain rfl : k = 100 := by omega
      go_wp2_with fail
      go_ret
      exact ⟨rfl, rfl⟩
theorem specSeedsIn (f : Fd) (hf : f.Wf) (w : World) : Calls Tryd.prog 18 #[.agg (fcells f)] w fun e w' => e = .returned (.tuple #[.int .i64 (seedsIn f), .int .i64 (fieldCode f)]) ∧ Below w.heap.size w w' := by
  unfold seedsIn fieldCode
  cases hok : okF f with
  | false =>
    simp only [Bool.false_eq_true, if_false]
    go_enter Tryd.func18, Tryd.ntmps18
    go_upto_region 1 with (fail)
    obtain ⟨W, hW, M⟩ := open1 w (fcells f) 28
    rw [hW]; clear hW
    go_wp2_with (go_at_call 48; refine (l01Ok_any f hf _ _ (M.at 0 rfl)).mono ?_; rintro e w' ⟨rfl, rfl⟩; rw [hok])
    go_ret2
    exact ⟨rfl, M.below⟩
  | true =>
    simp only [if_true]
    go_enter Tryd.func18, Tryd.ntmps18
    go_upto_region 1 with (fail)
    obtain ⟨W, hW, M⟩ := open1 w (fcells f) 28
    rw [hW]; clear hW
    go_wp2_with (first
      | (go_at_call 48; refine (l01Ok_any f hf _ _ (M.at 0 rfl)).mono ?_; rintro e w' ⟨rfl, rfl⟩; rw [hok])
      | (go_at_call 49; refine (l01Sum_any f hok _ _ (M.at 0 rfl)).mono ?_; rintro e w' ⟨rfl, rfl⟩))
    go_ret2
    exact ⟨rfl, M.below⟩

theorem Mem.fst' {w0 w : World} {e1 e2 : Ent} (H : Mem w0 w [e1, e2]) : Mem w0 w [e1] :=
  ⟨H.below, fun i e h => H.blk i e (by
    cases i with
    | zero => simpa using h
    | succ i => simp at h), fun i j e e' h h' hij => by
    cases i <;> cases j <;> simp_all⟩
/-- The seeds of some cells. -/
def sumL {f : Fd} (l : List (CellOf f)) : Int := l.foldl (fun s c => s + f.S c.1) 0
theorem sumL_snoc {f : Fd} (l : List (CellOf f)) (c : CellOf f) : sumL (l ++ [c]) = sumL l + f.S c.1 := by simp [sumL, List.foldl_append]
theorem ok_out {f : Fd} {n : Nat} (h : okF f = true) (hn : n < 100) (hc : isCell f n = false) : f.S n = 0 := by
  simp only [okF, Bool.and_eq_true] at h
  have := allTo_iff.1 h.2 n hn
  simp only [cellOk, hc, Bool.false_or, Bool.and_eq_true, beq_iff_eq] at this
  exact this.2.2
theorem sumL_to {f : Fd} (h : okF f = true) : ∀ n, n ≤ 100 → sumL (cellsTo f n) = sumTo f.S n
  | 0, _ => rfl
  | n + 1, hn => by
    have ih := sumL_to h n (by omega)
    cases hc : isCell f n with
    | true => rw [cellsTo_yes hc, sumL_snoc, ih]; rfl
    | false => rw [cellsTo_no hc, ih, sumTo_succ, ok_out h (by omega) hc, Int.add_zero]

set_option maxRecDepth 100000 in
set_option maxHeartbeats 2000000 in
theorem implSeedsIn_bad (f : Fd) (hf : f.Wf) (hok : okF f = false) (A : Nat → Addr) (w : World) (S0 : Sents w A) : Calls Tryd.prog 19 #[.agg (fcells f)] w fun e w' => e = .returned (.tuple #[.int .i64 0, .int .i64 1]) ∧ Below w.heap.size w w' := by
  have S : Hid (Sents w A) := Lib.hid S0
  clear S0
  have hif := isIfaceErr
  go_enter Tryd.func19, Tryd.ntmps19
  go_upto_region 1 with (fail)
  obtain ⟨W, hW, M⟩ := open1 w (fcells f) 28
  rw [hW]; clear hW
  go_wp2_with (first
      | (refine wpList_load_part rfl 28 _ rfl w.heap.size 0 rfl (fcells f) _ (M.at 0 rfl).whole Tryd.underlying28 rfl (by rw [fcells_size]; exact sizeFd) ?_)
      | (refine wpList_buildRow rfl 104 28 _ rfl (fcells f) rfl Tryd.underlying104 (by rw [fcells_size]; exact sizeFd) (by rw [fcells_size]; kernel_rfl) (by rw [fcells_size]; omega) (by rw [fcells_size]; omega) ?_)
      | (go_at_call 50; refine (checkFields1 f hf A _ _ _ (Blk.new _ _ _) (S.out.later (M.alloc _ _).below)).mono ?_; rintro e W2 ⟨rfl, hb⟩; rw [hok, errIf_false]; have M2 := (M.alloc _ _).call hb)
      | (go_at_call 38; refine (codeOf_err A 1 (by omega) (by omega) _ (S.out.later M2.below)).mono ?_; rintro e W3 ⟨rfl, rfl⟩))
  go_ret2
  exact ⟨rfl, M2.below⟩

set_option maxRecDepth 100000 in
set_option maxHeartbeats 8000000 in
theorem implSeedsIn_ok (f : Fd) (hf : f.Wf) (hok : okF f = true) (A : Nat → Addr) (w : World) (S0 : Sents w A) : Calls Tryd.prog 19 #[.agg (fcells f)] w fun e w' => e = .returned (.tuple #[.int .i64 (sumTo f.S 100), .int .i64 0]) ∧ Below w.heap.size w w' := by
  have S : Hid (Sents w A) := Lib.hid S0
  clear S0
  have hif := isIfaceErr
  have hWs : inB f.W 1 10 = true := by simp only [okF, Bool.and_eq_true] at hok; exact hok.1.1
  have hHs : inB f.H 1 10 = true := by simp only [okF, Bool.and_eq_true] at hok; exact hok.1.2
  have hdep : Fence.wide.depth.isSome = false := rfl
  have hfn : ∀ k, Fence.wide.fn k := fun _ => trivial
  refine (callsIn_wide (n := 3)).1 ?_
  refine callsIn_of_wp_marks Tryd.func19 rfl trivial ?_ rfl
  simp only [Tryd.ntmps19, List.size_toArray, List.length_cons, List.length_nil, Nat.reduceAdd, Nat.reduceSub, Array.replicate_succ, Array.replicate_zero, List.push_toArray, List.append_toArray, List.nil_append, List.cons_append]
  gi_upto_region 1 with (fail)
  obtain ⟨W, hW, M⟩ := open1 w (fcells f) 28
  rw [hW]; clear hW
  refine wpIn_wide.2 ?_
  go_wp2_with (first
      | (refine wpList_load_part rfl 28 _ rfl w.heap.size 0 rfl (fcells f) _ (M.at 0 rfl).whole Tryd.underlying28 rfl (by rw [fcells_size]; exact sizeFd) ?_)
      | (refine wpList_buildRow rfl 104 28 _ rfl (fcells f) rfl Tryd.underlying104 (by rw [fcells_size]; exact sizeFd) (by rw [fcells_size]; kernel_rfl) (by rw [fcells_size]; omega) (by rw [fcells_size]; omega) ?_)
      | (go_at_call 50; refine (checkFields1 f hf A _ _ _ (Blk.new _ _ _) (S.out.later (M.alloc _ _).below)).mono ?_; rintro e W2 ⟨rfl, hb⟩; rw [hok, errIf_true]; have M2 := (M.alloc _ _).call hb; clear hb))
  gi_upto_region 5 with (fail)
  obtain ⟨bs, hbs⟩ : ∃ bs, bs = W2.heap.size := ⟨_, rfl⟩
  have M3 : Mem w (W2.alloc (.cells #[.int .i64 0] 2)) [⟨w.heap.size, fcells f, 28⟩, ⟨bs, #[.int .i64 0], 2⟩] := by
    rw [hbs]
    exact (Mem.fst' M2).alloc _ _
  generalize W2.alloc _ = W3 at M3 ⊢
  rw [← hbs]
  clear hbs M2
  gi_wp2_with (first
    | (refine loadIn hfn rfl 28 _ rfl w.heap.size 0 rfl (fcells f) _ (M3.at 0 rfl).whole Tryd.underlying28 rfl (by rw [fcells_size]; exact sizeFd) ?_)
    | (gi_at_call 51; refine (callsIn_wide.2 (cellsIn_any f _)).mono ?_; rintro e w' ⟨rfl, rfl⟩))
  obtain ⟨bi, hbi⟩ : ∃ bi, bi = W3.heap.size := ⟨_, rfl⟩
  have M4 : Mem w (W3.alloc (Obj.cells (fcells f) 28)) [⟨w.heap.size, fcells f, 28⟩, ⟨bs, #[.int .i64 0], 2⟩, ⟨bi, fcells f, 28⟩] := by rw [hbi]; exact M3.alloc (fcells f) 28
  generalize W3.alloc _ = W4 at M4 ⊢
  rw [← hbi]
  clear hbi M3
  have hsz : w.heap.size ≤ W4.heap.size := M4.below.size
  refine wpIn_rangeFunc_ownF rfl (by omega) (gf := 70) (lb := #[.pointer (some ⟨bi, 0, none⟩)]) rfl trivial (enters_of Tryd.func70 (by kernel_rfl) rfl)
    (cells_stops 2 bi f (inB_size hWs) (inB_size hHs) W4 (M4.at 2 rfl)) (fun h k => k.trans h)
    (fun W l o o' hl ho hc _ => World.putObj_heap_other (fun e => by
      have := (M4.at 2 rfl).lt
      omega))
    (Below.refl _ _) (fun _ => rfl)
    (fun pre W => Mem w W [⟨w.heap.size, fcells f, 28⟩, ⟨bs, #[.int .i64 (sumL pre)], 2⟩, ⟨bi, fcells f, 28⟩] ∧ 0 ≤ sumL pre ∧ sumL pre ≤ 1000 * pre.length)
    (fun _ _ _ => False)
    (fun s A B row hs hg hr => ⟨hs.1.grown hsz hg hr, hs.2⟩)
    (fun c s A B row hs hg hr => hs)
    ⟨M4, by simp [sumL], by simp [sumL]⟩
    (fun x => { tmps := #[.agg (fcells f), .pointer (some ⟨w.heap.size, 0, none⟩), .int .i64 0, .int .i64 0, .nilIface, .pointer (some ⟨bs, 0, none⟩), .int .i64 (x.1 : Int), .agg (fcells f), .slice (some ⟨W.heap.size, 0, none⟩) 1 1, .nilIface, .nilIface, .bool false, undef, undef, .agg (fcells f), .func (.func 70) #[] #[.pointer (some ⟨bi, 0, none⟩)], .int .i64 (x.1 : Int), undef, undef, undef, undef, undef, undef, undef, undef], defers := [] }) ?assign ?body ?done ?stop
  case assign =>
    intro l x W K hK
    gi_wp2
    exact hK
  case body =>
    rintro l pre x W5 ⟨M5, hs1, hs2⟩ hlen
    have hfn' : ∀ k, (Fence.wide.inRound l).fn k := fun _ => trivial
    have hdep' : (Fence.wide.inRound l).depth.isSome = false := rfl
    have hx := isCell_lt x.2
    have hx1 : (x.1 : Int) < 100 := by omega
    obtain ⟨hg1, hg2⟩ := ok_seeds hok hx
    have cS := (M5.at 0 rfl).cell (fcells_S f x.1 hx)
    have d0 := (M5.at 1 rfl).cell (i := 0) rfl
    have e0 := (M5.at 1 rfl).free 0
    have hlen' : pre.length < 100 := hlen
    have hw1 : Hid (IntKind.i64.wrap (f.S x.val) = f.S x.val) := Lib.hid (IntWalk.i64_in _ (by omega))
    have hw2 : Hid (IntKind.i64.wrap (sumL pre + f.S x.val) = sumL pre + f.S x.val) := Lib.hid (IntWalk.i64_in _ (by omega))
    have hsn : Hid (sumL (pre ++ [x]) = sumL pre + f.S x.1) := Lib.hid (sumL_snoc pre x)
    have M8 := Lib.hid ((M5.set 1 0 (.int .i64 (sumL pre + f.S x.1)) rfl #[.int .i64 (sumL pre + f.S x.1)] rfl).drew)
    gi_wp2
    gi_region
    all_goals gi_wp2
    all_goals (rw [hw1.out, hw2.out]; exact ⟨(KeepsOthers.setCell _ _ _).trans (KeepsOthers.of_below ((Below.refl _ _).drew)), M5.same M8.out 2 2 rfl rfl, by rw [hsn.out]; exact M8.out, by rw [hsn.out]; omega, by rw [hsn.out, List.length_append]; simp; omega⟩)
  case done =>
    rintro D xs W5 hD rfl ⟨M5, h1, h2⟩ hK
    have e := sumL_to hok 100 (by omega)
    rw [e] at M5
    have d0 := (M5.at 1 rfl).cell (i := 0) rfl
    gi_wp2
    refine ⟨by simp, .inl ⟨_, _, rfl, run_takeDeferred hK, ?_⟩⟩
    have M7 := M5.taken (o' := .deferred none) (Nat.le_trans hsz hD) hK rfl
    exact ⟨.tuple #[.int .i64 (sumTo f.S 100), .int .i64 0], by simp [results, Tryd.results19, go_sem], rfl, M7.below⟩
  case stop =>
    rintro D c pre W5 hD _ h hK
    exact h.elim
theorem implSeedsIn (f : Fd) (hf : f.Wf) (A : Nat → Addr) (w : World) (S0 : Sents w A) : Calls Tryd.prog 19 #[.agg (fcells f)] w fun e w' => e = .returned (.tuple #[.int .i64 (seedsIn f), .int .i64 (fieldCode f)]) ∧ Below w.heap.size w w' := by
  unfold seedsIn fieldCode
  cases hok : okF f with
  | false => simpa using implSeedsIn_bad f hf hok A w S0
  | true => simpa using implSeedsIn_ok f hf hok A w S0
end Go.Proofs.YtfnpbpokieckcaaDoor
