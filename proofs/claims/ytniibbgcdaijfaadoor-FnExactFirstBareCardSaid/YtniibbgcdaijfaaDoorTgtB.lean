/-
  The first target that nets leave bare: the model's, the program's.
-/
import Derived.Test.YtniibbgcdaijfaaDoorTgtM
import Derived.Test.YtniibbgcdaijfaaDoorNums
import Derived.Test.YtniibbgcdaijfaaDoorAppSeq
import Derived.BigRegion
import Derived.BigRegionIn
namespace Go.Proofs.YtniibbgcdaijfaaDoor
open Go Go.RowKit Go.Shelf
attribute [local go_sem] Oper.semAt_some

theorem numsTo_not {g : Nat → Int} {n : Nat} (h : ¬(n < 100 ∧ hasC g (n : Int) = true)) : numsTo g (n + 1) = numsTo g n := by
  show (if h : n < 100 ∧ hasC g (n : Int) = true then _ else _) = _
  rw [dif_neg h]
theorem numsTo_more (g : Nat → Int) (k : Nat) : ∀ d, ∃ r, numsTo g (k + d) = numsTo g k ++ r
  | 0 => ⟨[], by simp⟩
  | d + 1 => by
    obtain ⟨r, hr⟩ := numsTo_more g k d
    by_cases h : k + d < 100 ∧ hasC g ((k + d : Nat) : Int) = true
    · exact ⟨r ++ [⟨k + d, h⟩], by rw [show k + (d + 1) = (k + d) + 1 by omega, numsTo_yes h, hr, List.append_assoc]⟩
    · refine ⟨r, ?_⟩
      rw [show k + (d + 1) = (k + d) + 1 by omega, numsTo_not h, hr]
theorem first_num {g : Nat → Int} {k : Nat} (hk : k ≤ 100) {x : NumOf g} (h : [x] = numsTo g k) : ∃ r, hlist g 100 = (x.1 : Int) :: r := by
  obtain ⟨r, hr⟩ := numsTo_more g k (100 - k)
  rw [show k + (100 - k) = 100 by omega, ← h] at hr
  have e := numsTo_hlist g 100 (Nat.le_refl _)
  rw [hr] at e
  cases hl : hlist g 100 with
  | nil => rw [hl] at e; simp at e
  | cons y ys =>
    rw [hl] at e
    simp only [List.singleton_append, List.map_cons, List.cons.injEq, Value.int.injEq, true_and] at e
    exact ⟨ys, by rw [e.1]⟩
set_option maxRecDepth 100000 in
set_option maxHeartbeats 4000000 in
theorem leastIn_none (g : Nat → Int) (h0 : hlist g 100 = []) (A : Nat → Addr) (w : World) (S0 : Sents w A) :
    Calls Tryd.prog 27 #[.agg (acells .u64 2 g)] w fun e w' => e = .returned (.tuple #[.int .i64 0, errVal (A 6)]) ∧ Below w.heap.size w w' := by
  have S : Hid (Sents w A) := Lib.hid S0
  have H0 := Lib.hid h0
  clear S0 h0
  have hdep : Fence.wide.depth.isSome = false := rfl
  have hfn : ∀ k, Fence.wide.fn k := fun _ => trivial
  refine (callsIn_wide (n := 3)).1 ?_
  refine callsIn_of_wp_marks Tryd.func27 rfl trivial ?_ rfl
  simp only [Tryd.ntmps27, List.size_toArray, List.length_cons, List.length_nil, Nat.reduceAdd, Nat.reduceSub, Array.replicate_succ, Array.replicate_zero, List.push_toArray, List.append_toArray, List.nil_append, List.cons_append]
  gi_upto_region 1 with (fail)
  obtain ⟨W, hW, M⟩ := open3 w (acells .u64 2 g) 38 #[.int .i64 0] 2 #[.nilIface] 60
  rw [hW]; clear hW
  gi_wp2_with (first
    | (refine loadIn hfn rfl 38 _ rfl w.heap.size 0 rfl (acells .u64 2 g) _ (M.at 0 rfl).whole Tryd.underlying38 rfl (by rw [acells_size]; exact sizeC) ?_)
    | (gi_at_call 46; refine (callsIn_wide.2 (numbersIn_any g _)).mono ?_; rintro e w' ⟨rfl, rfl⟩))
  have M4' := M.alloc (acells .u64 2 g) 38
  obtain ⟨bi, hbi⟩ : ∃ bi, bi = W.heap.size := ⟨_, rfl⟩
  rw [← hbi] at M4' ⊢
  clear hbi
  generalize W.alloc _ = W4 at M4' ⊢
  have M4 : Mem w W4 [⟨w.heap.size, acells .u64 2 g, 38⟩, ⟨w.heap.size + 1, #[.int .i64 0], 2⟩, ⟨w.heap.size + 1 + 1, #[.nilIface], 60⟩, ⟨bi, acells .u64 2 g, 38⟩] := M4'
  clear M4' M
  have hsz : w.heap.size ≤ W4.heap.size := M4.below.size
  refine wpIn_rangeFunc_ownF rfl (by omega) (gf := 68) (lb := #[.pointer (some ⟨bi, 0, none⟩)]) rfl trivial (enters_of Tryd.func68 (by kernel_rfl) rfl)
    (nums_stops 2 bi g W4 (M4.at 3 rfl)) (fun h k => k.trans h)
    (fun W l o o' hl ho hc _ => World.putObj_heap_other (fun e => by
      have := (M4.at 3 rfl).lt
      omega))
    (Below.refl _ _) (fun _ => rfl)
    (fun pre W => Mem w W [⟨w.heap.size, acells .u64 2 g, 38⟩, ⟨w.heap.size + 1, #[.int .i64 0], 2⟩, ⟨w.heap.size + 1 + 1, #[.nilIface], 60⟩, ⟨bi, acells .u64 2 g, 38⟩])
    (fun _ _ _ => False)
    (fun s A B row hs hg hr => hs.grown hsz hg hr)
    (fun c s A B row hs hg hr => hs)
    M4
    (fun x => { tmps := #[.agg (acells .u64 2 g), .pointer (some ⟨w.heap.size, 0, none⟩), .pointer (some ⟨w.heap.size + 1, 0, none⟩), .pointer (some ⟨w.heap.size + 1 + 1, 0, none⟩), .int .i64 (x.1 : Int), .agg (acells .u64 2 g), .func (.func 68) #[] #[.pointer (some ⟨bi, 0, none⟩)], .int .i64 (x.1 : Int), undef, undef], defers := [] }) ?assign ?body ?done ?stop
  case assign =>
    intro l x W K hK
    gi_wp2
    exact hK
  case body =>
    rintro l pre x W5 M5 _
    have := hlist_nil H0.out x.1 x.2.1
    rw [x.2.2] at this
    cases this
  case done =>
    rintro D xs W5 hD rfl M5 hK
    have hv6 := (S.out.later M5.below).v6
    have e1 := (M5.at 1 rfl).free 0
    have e2 := (M5.at 2 rfl).free 0
    have c1 := (M5.at 1 rfl).cell (i := 0) (v := .int .i64 0) rfl
    have c2 := (M5.at 2 rfl).cell (i := 0) (v := .nilIface) rfl
    have hv6a := (S.out.later (M5.set 1 0 (.int .i64 0) rfl _ rfl).below).v6
    have hv6b := (S.out.later (M5.set 1 0 (.int .i64 0) rfl _ rfl).drew.below).v6
    gi_upto_region 4 with (fail)
    gi_region
    all_goals gi_wp2
    all_goals (
      have M6 := (M5.set 1 0 (.int .i64 0) rfl _ rfl).set 2 0 (errVal (A 6)) rfl _ rfl
      have hK6 := ((KeepsOthers.setCell W5 ⟨w.heap.size + 1, 0, none⟩ (.int .i64 0)).trans (KeepsOthers.setCell _ ⟨w.heap.size + 1 + 1, 0, none⟩ (errVal (A 6)))).same D _ hK rfl
      refine ⟨by simp, .inl ⟨_, _, rfl, run_takeDeferred hK6, ?_⟩⟩
      have M7 := M6.drew.taken (o' := .deferred none) (Nat.le_trans hsz hD) hK6 rfl
      exact ⟨_, by have h1 := (M7.at 1 rfl).cell (i := 0) (v := .int .i64 0) rfl; have h2 := (M7.at 2 rfl).cell (i := 0) (v := errVal (A 6)) rfl; simp [results, Tryd.results27, go_sem, h1, h2], rfl, M7.below⟩)
  case stop =>
    rintro D c pre W5 hD _ h hK
    exact h.elim
set_option maxRecDepth 100000 in
set_option maxHeartbeats 4000000 in
theorem leastIn_some (g : Nat → Int) (y : Int) (ys : List Int) (h0 : hlist g 100 = y :: ys) (w : World) :
    Calls Tryd.prog 27 #[.agg (acells .u64 2 g)] w fun e w' => e = .returned (.tuple #[.int .i64 y, .nilIface]) ∧ Below w.heap.size w w' := by
  have H0 := Lib.hid h0
  clear h0
  have hdep : Fence.wide.depth.isSome = false := rfl
  have hfn : ∀ k, Fence.wide.fn k := fun _ => trivial
  refine (callsIn_wide (n := 3)).1 ?_
  refine callsIn_of_wp_marks Tryd.func27 rfl trivial ?_ rfl
  simp only [Tryd.ntmps27, List.size_toArray, List.length_cons, List.length_nil, Nat.reduceAdd, Nat.reduceSub, Array.replicate_succ, Array.replicate_zero, List.push_toArray, List.append_toArray, List.nil_append, List.cons_append]
  gi_upto_region 1 with (fail)
  obtain ⟨W, hW, M⟩ := open3 w (acells .u64 2 g) 38 #[.int .i64 0] 2 #[.nilIface] 60
  rw [hW]; clear hW
  gi_wp2_with (first
    | (refine loadIn hfn rfl 38 _ rfl w.heap.size 0 rfl (acells .u64 2 g) _ (M.at 0 rfl).whole Tryd.underlying38 rfl (by rw [acells_size]; exact sizeC) ?_)
    | (gi_at_call 46; refine (callsIn_wide.2 (numbersIn_any g _)).mono ?_; rintro e w' ⟨rfl, rfl⟩))
  have M4' := M.alloc (acells .u64 2 g) 38
  obtain ⟨bi, hbi⟩ : ∃ bi, bi = W.heap.size := ⟨_, rfl⟩
  rw [← hbi] at M4' ⊢
  clear hbi
  generalize W.alloc _ = W4 at M4' ⊢
  have M4 : Mem w W4 [⟨w.heap.size, acells .u64 2 g, 38⟩, ⟨w.heap.size + 1, #[.int .i64 0], 2⟩, ⟨w.heap.size + 1 + 1, #[.nilIface], 60⟩, ⟨bi, acells .u64 2 g, 38⟩] := M4'
  clear M4' M
  have hsz : w.heap.size ≤ W4.heap.size := M4.below.size
  refine wpIn_rangeFunc_ownF rfl (by omega) (gf := 68) (lb := #[.pointer (some ⟨bi, 0, none⟩)]) rfl trivial (enters_of Tryd.func68 (by kernel_rfl) rfl)
    (nums_stops 2 bi g W4 (M4.at 3 rfl)) (fun h k => k.trans h)
    (fun W l o o' hl ho hc _ => World.putObj_heap_other (fun e => by
      have := (M4.at 3 rfl).lt
      omega))
    (Below.refl _ _) (fun _ => rfl)
    (fun pre W => pre = [] ∧ Mem w W [⟨w.heap.size, acells .u64 2 g, 38⟩, ⟨w.heap.size + 1, #[.int .i64 0], 2⟩, ⟨w.heap.size + 1 + 1, #[.nilIface], 60⟩, ⟨bi, acells .u64 2 g, 38⟩])
    (fun c pre W => c = Code.ret ∧ ∃ x : NumOf g, pre = [x] ∧ Mem w W [⟨w.heap.size, acells .u64 2 g, 38⟩, ⟨w.heap.size + 1, #[.int .i64 (x.1 : Int)], 2⟩, ⟨w.heap.size + 1 + 1, #[.nilIface], 60⟩, ⟨bi, acells .u64 2 g, 38⟩])
    (fun s A B row hs hg hr => ⟨hs.1, hs.2.grown hsz hg hr⟩)
    (fun c s A B row hs hg hr => by
      obtain ⟨e, x, h1, h2⟩ := hs
      exact ⟨e, x, h1, h2.grown hsz hg hr⟩)
    ⟨rfl, M4⟩
    (fun x => { tmps := #[.agg (acells .u64 2 g), .pointer (some ⟨w.heap.size, 0, none⟩), .pointer (some ⟨w.heap.size + 1, 0, none⟩), .pointer (some ⟨w.heap.size + 1 + 1, 0, none⟩), .int .i64 (x.1 : Int), .agg (acells .u64 2 g), .func (.func 68) #[] #[.pointer (some ⟨bi, 0, none⟩)], .int .i64 (x.1 : Int), undef, undef], defers := [] }) ?assign ?body ?done ?stop
  case assign =>
    intro l x W K hK
    gi_wp2
    exact hK
  case body =>
    rintro l pre x W5 ⟨rfl, M5⟩ _
    have hfn' : ∀ k, (Fence.wide.inRound l).fn k := fun _ => trivial
    have hdep' : (Fence.wide.inRound l).depth.isSome = false := rfl
    have e1 := (M5.at 1 rfl).free 0
    have e2 := (M5.at 2 rfl).free 0
    have c1 := (M5.at 1 rfl).cell (i := 0) (v := .int .i64 0) rfl
    have c2 := (M5.at 2 rfl).cell (i := 0) (v := .nilIface) rfl
    gi_wp2
    have M6 := (M5.set 1 0 (.int .i64 (x.1 : Int)) rfl _ rfl).set 2 0 .nilIface rfl _ rfl
    exact ⟨(KeepsOthers.setCell _ _ _).trans (KeepsOthers.setCell _ _ _), rfl, x, rfl, M6⟩
  case done =>
    rintro D xs W5 hD rfl ⟨hnil, M5⟩ hK
    have h1 := (numsTo_nil g).1 hnil
    rw [H0.out] at h1
    cases h1
  case stop =>
    rintro D c pre W5 hD ⟨k, hk, hpre⟩ ⟨rfl, x, rfl, M5⟩ hK
    obtain ⟨r, hr⟩ := first_num hk hpre
    have hy : y = (x.1 : Int) := by
      have h := H0.out
      rw [hr] at h
      exact (List.cons.inj h).1.symm
    gi_wp2
    refine ⟨by simp, .inl ⟨_, _, rfl, run_takeDeferred hK, ?_⟩⟩
    have M7 := M5.taken (o' := .deferred none) (Nat.le_trans hsz hD) hK rfl
    exact ⟨_, by have h1 := (M7.at 1 rfl).cell (i := 0) (v := .int .i64 (x.1 : Int)) rfl; have h2 := (M7.at 2 rfl).cell (i := 0) (v := .nilIface) rfl; simp [results, Tryd.results27, go_sem, h1, h2]; rfl, by rw [hy], M7.below⟩
def firstB (f : Fd) (n : Nat) (F : Nat → Nat → Int) (g : Nat → Int) : Int := if codeT f n F g true = 0 then (hlist (bareC g n F) 100).getD 0 0 else 0
def firstCode (f : Fd) (n : Nat) (F : Nat → Nat → Int) (g : Nat → Int) : Int := if codeT f n F g true = 0 then (if (hlist (bareC g n F) 100).length = 0 then 6 else 0) else codeT f n F g true
theorem first_no {f : Fd} {n : Nat} {F : Nat → Nat → Int} {g : Nat → Int} (h : codeT f n F g true ≠ 0) : firstB f n F g = 0 ∧ firstCode f n F g = codeT f n F g true := by
  unfold firstB firstCode; rw [if_neg h, if_neg h]; exact ⟨rfl, rfl⟩
theorem first_nil {f : Fd} {n : Nat} {F : Nat → Nat → Int} {g : Nat → Int} (h : codeT f n F g true = 0) (e : hlist (bareC g n F) 100 = []) : firstB f n F g = 0 ∧ firstCode f n F g = 6 := by
  unfold firstB firstCode; rw [if_pos h, if_pos h, e]; exact ⟨rfl, rfl⟩
theorem first_cons {f : Fd} {n : Nat} {F : Nat → Nat → Int} {g : Nat → Int} (h : codeT f n F g true = 0) {y : Int} {ys : List Int} (e : hlist (bareC g n F) 100 = y :: ys) : firstB f n F g = y ∧ firstCode f n F g = 0 := by
  unfold firstB firstCode; rw [if_pos h, if_pos h, e]; exact ⟨rfl, rfl⟩
set_option maxRecDepth 100000 in
set_option maxHeartbeats 4000000 in
theorem specFirstBare (f : Fd) (hf : f.Wf) (n : Nat) (hn : n ≤ 2 ^ 40) (F : Nat → Nat → Int) (hF : ∀ i, i < n → WfN (F i)) (g : Nat → Int) (hgU : U64 g) (b o c : Nat) (w : World) (I : InS w b o n ksNet F) :
    Calls Tryd.prog 13 #[.agg (fcells f), .slice (some ⟨b, o, none⟩) n c, .agg (acells .u64 2 (g))] w fun e w' => e = .returned (.tuple #[.int .i64 (firstB f n F g), .int .i64 (firstCode f n F g)]) ∧ Below w.heap.size w w' := by
  have HI := Lib.hid I
  clear I
  by_cases hc0 : codeT f n F g true = 0
  · obtain ⟨hok, hns, _⟩ := code_0 (codeT_zeroN hc0)
    have hfits := code_fits hok hns
    have hc := Lib.hid hc0
    have hL := Lib.hid (bareC_list hgU n F)
    cases hl : hlist (bareC g n F) 100 with
    | nil =>
      rw [(first_nil hc0 hl).1, (first_nil hc0 hl).2]
      have HM := Lib.hid hl
      clear hc0 hl
      go_enter Tryd.func13, Tryd.ntmps13
      go_upto_region 1 with (fail)
      obtain ⟨W, hW, M⟩ := open2 w (fcells f) 34 (acells .u64 2 (g)) 38
      rw [hW]; clear hW
      go_wp2_with (first
        | (go_at_call 18; refine (l04Targets_any f hf n hn F hF g b o c w.heap.size (w.heap.size + 1) _ (M.at 0 rfl) (M.at 1 rfl) (HI.out.later M.below)).mono ?_; rintro e W2 ⟨rfl, hb⟩; rw [hc.out]; have M2 := M.call hb; clear M hb)
        | (go_at_call 19; refine (l04Bare_some n hn F hfits g b o c (w.heap.size + 1) _ (M2.at 1 rfl) (HI.out.later M2.below)).mono ?_; rintro e W3 ⟨q, c9, rfl, _, hb⟩; rw [hL.out, HM.out]; have M3 := M2.call hb; clear M2 hb; simp only [List.length_nil]))
      go_ret2
      exact ⟨rfl, M3.below⟩
    | cons y ys =>
      rw [(first_cons hc0 hl).1, (first_cons hc0 hl).2]
      have HM := Lib.hid hl
      clear hc0 hl
      obtain ⟨m, hm⟩ : ∃ m, ys.length = m := ⟨_, rfl⟩
      have Hm := Lib.hid hm
      clear hm
      go_enter Tryd.func13, Tryd.ntmps13
      go_upto_region 1 with (fail)
      obtain ⟨W, hW, M⟩ := open2 w (fcells f) 34 (acells .u64 2 (g)) 38
      rw [hW]; clear hW
      go_wp2_with (first
        | (go_at_call 18; refine (l04Targets_any f hf n hn F hF g b o c w.heap.size (w.heap.size + 1) _ (M.at 0 rfl) (M.at 1 rfl) (HI.out.later M.below)).mono ?_; rintro e W2 ⟨rfl, hb⟩; rw [hc.out]; have M2 := M.call hb; clear M hb)
        | (go_at_call 19; refine (l04Bare_some n hn F hfits g b o c (w.heap.size + 1) _ (M2.at 1 rfl) (HI.out.later M2.below)).mono ?_; rintro e W3 ⟨q, c9, rfl, J, hb⟩; rw [hL.out, HM.out] at J ⊢; have M3 := M2.call hb; clear M2 hb; rw [List.length_cons, Hm.out] at J ⊢; obtain ⟨b7, rfl, J7⟩ := J.resolve_left (by omega); have hcell : W3.cell? ⟨b7, 0, none⟩ = some (.int .i64 y) := J7 0 (by omega); clear J J7))
      go_ret2
      exact ⟨rfl, M3.below⟩
  · rw [(first_no hc0).1, (first_no hc0).2]
    obtain ⟨cd, hcd⟩ : ∃ cd, codeT f n F g true = cd := ⟨_, rfl⟩
    rw [hcd] at hc0 ⊢
    have hc := Lib.hid hcd
    have hne2 : (cd != 0) = true := by simpa using hc0
    clear hcd
    go_enter Tryd.func13, Tryd.ntmps13
    go_upto_region 1 with (fail)
    obtain ⟨W, hW, M⟩ := open2 w (fcells f) 34 (acells .u64 2 (g)) 38
    rw [hW]; clear hW
    go_wp2_with (go_at_call 18; refine (l04Targets_any f hf n hn F hF g b o c w.heap.size (w.heap.size + 1) _ (M.at 0 rfl) (M.at 1 rfl) (HI.out.later M.below)).mono ?_; rintro e W2 ⟨rfl, hb⟩; rw [hc.out]; have M2 := M.call hb; clear M hb)
    go_ret2
    exact ⟨rfl, M2.below⟩
set_option maxRecDepth 100000 in
set_option maxHeartbeats 4000000 in
theorem implFirstBare (f : Fd) (hf : f.Wf) (n : Nat) (hn : n ≤ 2 ^ 40) (F : Nat → Nat → Int) (hF : ∀ i, i < n → WfN (F i)) (g : Nat → Int) (hgU : U64 g) (b o c : Nat) (A : Nat → Addr) (w : World) (I : InS w b o n ksNet F) (S0 : Sents w A) :
    Calls Tryd.prog 14 #[.agg (fcells f), .slice (some ⟨b, o, none⟩) n c, .agg (acells .u64 2 (g))] w fun e w' => e = .returned (.tuple #[.int .i64 (firstB f n F g), .int .i64 (firstCode f n F g)]) ∧ Below w.heap.size w w' := by
  have HI := Lib.hid I
  have S : Hid (Sents w A) := Lib.hid S0
  clear I S0
  have hif := isIfaceErr
  have bad : ∀ k : Nat, 1 ≤ k → k ≤ 8 → netErr A (codeT f n F g true) = errVal (A k) → Calls Tryd.prog 14 #[.agg (fcells f), .slice (some ⟨b, o, none⟩) n c, .agg (acells .u64 2 (g))] w fun e w' => e = .returned (.tuple #[.int .i64 0, .int .i64 k]) ∧ Below w.heap.size w w' := by
    intro k h1 h8 hcode
    have hc := Lib.hid hcode
    clear hcode
    go_enter Tryd.func14, Tryd.ntmps14
    go_upto_region 1 with (fail)
    obtain ⟨W, hW, M⟩ := open2 w (fcells f) 34 (acells .u64 2 (g)) 38
    rw [hW]; clear hW
    go_wp2_with (first
      | (refine wpList_load_part rfl 34 _ rfl (w.heap.size) 0 rfl (fcells f) _ (M.at 0 rfl).whole Tryd.underlying34 rfl (by rw [fcells_size]; exact sizeFd) ?_)
      | (refine wpList_load_part rfl 38 _ rfl ((w.heap.size + 1)) 0 rfl (acells .u64 2 (g)) _ (M.at 1 rfl).whole Tryd.underlying38 rfl (by rw [acells_size]; exact sizeC) ?_)
      | (go_at_call 23; refine (checkNettingG f hf n hn F hF g (wf_of_u64 hgU) b o c A _ (HI.out.later M.below) (S.out.later M.below)).mono ?_; rintro e W2 ⟨rfl, hb⟩; rw [hc.out]; have M2 := M.call hb; go_wp2_with (go_at_call 24; refine (codeOf_err A k h1 h8 _ (S.out.later M2.below)).mono ?_; rintro e W3 ⟨rfl, rfl⟩)))
    go_ret2
    exact ⟨rfl, M2.below⟩
  by_cases hc0 : codeT f n F g true = 0
  · obtain ⟨hok, hns, _⟩ := code_0 (codeT_zeroN hc0)
    have hfits := code_fits hok hns
    have hcn : Hid (netErr A (codeT f n F g true) = .nilIface) := Lib.hid (by rw [hc0]; rfl)
    clear bad
    cases hl : hlist (bareC g n F) 100 with
    | nil =>
      rw [(first_nil hc0 hl).1, (first_nil hc0 hl).2]
      have HM := Lib.hid hl
      clear hc0 hl
      go_enter Tryd.func14, Tryd.ntmps14
      go_upto_region 1 with (fail)
      obtain ⟨W, hW, M⟩ := open2 w (fcells f) 34 (acells .u64 2 (g)) 38
      rw [hW]; clear hW
      go_wp2_with (first
        | (refine wpList_load_part rfl 34 _ rfl (w.heap.size) 0 rfl (fcells f) _ (M.at 0 rfl).whole Tryd.underlying34 rfl (by rw [fcells_size]; exact sizeFd) ?_)
        | (refine wpList_load_part rfl 38 _ rfl ((w.heap.size + 1)) 0 rfl (acells .u64 2 (g)) _ (M.at 1 rfl).whole Tryd.underlying38 rfl (by rw [acells_size]; exact sizeC) ?_)
        | (go_at_call 23; refine (checkNettingG f hf n hn F hF g (wf_of_u64 hgU) b o c A _ (HI.out.later M.below) (S.out.later M.below)).mono ?_; rintro e W2 ⟨rfl, hb⟩; rw [hcn.out]; have M2 := M.call hb; clear M hb; go_wp2_with (first
            | (go_at_call 25; refine (bareOf_any g _).mono ?_; rintro e W3 ⟨rfl, rfl⟩; have M3 := M2.alloc (acells .u64 2 (g)) 38)
            | (go_at_call 44; refine (bare_closure n hn F hfits g b o c W2.heap.size _ (Blk.new _ _ _) (HI.out.later M3.below)).mono ?_; rintro e W4 ⟨rfl, hb4⟩; have M4 := M3.call hb4; clear M3 hb4)
            | (go_at_call 27; refine (leastIn_none (bareC g n F) HM.out A _ (S.out.later M4.below)).mono ?_; rintro e W5 ⟨rfl, hb5⟩; have M5 := M4.call hb5; clear M4 hb5)
            | (go_at_call 24; refine (codeOf_err A 6 (by omega) (by omega) _ (S.out.later M5.below)).mono ?_; rintro e W6 ⟨rfl, rfl⟩)
            | (refine wpList_load_part rfl 38 _ rfl ((w.heap.size + 1)) 0 rfl (acells .u64 2 (g)) _ (M2.at 1 rfl).whole Tryd.underlying38 rfl (by rw [acells_size]; exact sizeC) ?_))))
      go_ret2
      exact ⟨rfl, M5.below⟩
    | cons y ys =>
      rw [(first_cons hc0 hl).1, (first_cons hc0 hl).2]
      have HM := Lib.hid hl
      clear hc0 hl
      go_enter Tryd.func14, Tryd.ntmps14
      go_upto_region 1 with (fail)
      obtain ⟨W, hW, M⟩ := open2 w (fcells f) 34 (acells .u64 2 (g)) 38
      rw [hW]; clear hW
      go_wp2_with (first
        | (refine wpList_load_part rfl 34 _ rfl (w.heap.size) 0 rfl (fcells f) _ (M.at 0 rfl).whole Tryd.underlying34 rfl (by rw [fcells_size]; exact sizeFd) ?_)
        | (refine wpList_load_part rfl 38 _ rfl ((w.heap.size + 1)) 0 rfl (acells .u64 2 (g)) _ (M.at 1 rfl).whole Tryd.underlying38 rfl (by rw [acells_size]; exact sizeC) ?_)
        | (go_at_call 23; refine (checkNettingG f hf n hn F hF g (wf_of_u64 hgU) b o c A _ (HI.out.later M.below) (S.out.later M.below)).mono ?_; rintro e W2 ⟨rfl, hb⟩; rw [hcn.out]; have M2 := M.call hb; clear M hb; go_wp2_with (first
            | (go_at_call 25; refine (bareOf_any g _).mono ?_; rintro e W3 ⟨rfl, rfl⟩; have M3 := M2.alloc (acells .u64 2 (g)) 38)
            | (go_at_call 44; refine (bare_closure n hn F hfits g b o c W2.heap.size _ (Blk.new _ _ _) (HI.out.later M3.below)).mono ?_; rintro e W4 ⟨rfl, hb4⟩; have M4 := M3.call hb4; clear M3 hb4)
            | (go_at_call 27; refine (leastIn_some (bareC g n F) y ys HM.out _).mono ?_; rintro e W5 ⟨rfl, hb5⟩; have M5 := M4.call hb5; clear M4 hb5)
            | (go_at_call 24; refine (codeOf_nil A _ (S.out.later M5.below)).mono ?_; rintro e W6 ⟨rfl, rfl⟩)
            | (refine wpList_load_part rfl 38 _ rfl ((w.heap.size + 1)) 0 rfl (acells .u64 2 (g)) _ (M2.at 1 rfl).whole Tryd.underlying38 rfl (by rw [acells_size]; exact sizeC) ?_))))
      go_ret2
      exact ⟨rfl, M5.below⟩
  · rw [(first_no hc0).1, (first_no hc0).2]
    rcases codeT_cases f n F g true with hc | hc | hc | hc
    · exact absurd hc hc0
    · rw [hc]; exact bad 1 (by omega) (by omega) (by rw [hc]; rfl)
    · rw [hc]; exact bad 2 (by omega) (by omega) (by rw [hc]; rfl)
    · rw [hc]; exact bad 3 (by omega) (by omega) (by rw [hc]; rfl)
end Go.Proofs.YtniibbgcdaijfaaDoor
