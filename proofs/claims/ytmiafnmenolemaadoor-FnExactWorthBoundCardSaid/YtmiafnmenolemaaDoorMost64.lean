/-
  The most of numbers that any iterator gives, by any function of them: mostOf.
-/
import Derived.Test.YtmiafnmenolemaaDoorCallF
import Derived.Test.YtmiafnmenolemaaDoorRegIn
import Derived.Test.YtmiafnmenolemaaDoorRow
import Derived.BigRegion
import Derived.BigRegionIn
import Derived.Sort.CutIn
namespace Go.Proofs.YtmiafnmenolemaaDoor
open Go Go.RowKit Go.Shelf
attribute [local go_sem] Oper.semAt_some

/-- The first one of the greatest, if there is one. -/
def mxStep {X : Type} (v : X → Int) (o : Option X) (x : X) : Option X := match o with | none => some x | some y => if v y < v x then some x else some y
def mx {X : Type} (v : X → Int) (l : List X) : Option X := l.foldl (mxStep v) none
theorem mx_snoc {X : Type} (v : X → Int) (l : List X) (x : X) : mx v (l ++ [x]) = mxStep v (mx v l) x := by unfold mx; rw [List.foldl_append]; rfl
def valM {X : Type} (u : X → Int) (o : Option X) : Int := match o with | some x => u x | none => 0
abbrev M64B (w : World) (fv : Value) (a b : Int) (q : Bool) : List Ent := [⟨w.heap.size, #[fv], 61⟩, ⟨w.heap.size + 1, #[.int .i64 a], 2⟩, ⟨w.heap.size + 1 + 1, #[.int .i64 b], 2⟩, ⟨w.heap.size + 1 + 1 + 1, #[.bool q], 4⟩]
theorem open64 (w : World) (fv : Value) : ∃ W, (((w.alloc (.cells #[fv] 61)).alloc (.cells #[.int .i64 0] 2)).alloc (.cells #[.int .i64 0] 2)).alloc (.cells #[.bool false] 4) = W ∧ Mem w W (M64B w fv 0 0 false) := by
  have h := ((((Mem.nil w).alloc #[fv] 61).alloc #[.int .i64 0] 2).alloc #[.int .i64 0] 2).alloc #[.bool false] 4
  simp only [World.size_alloc, List.nil_append, List.cons_append] at h
  exact ⟨_, rfl, h⟩
set_option maxRecDepth 100000 in
set_option maxHeartbeats 8000000 in
theorem most64_gen {X : Type} (val v : X → Int) (gf : FuncId) (Bs : Nat) (L : List X) (N : Nat) (Pp : List X → Prop) (fc : FuncId) (first caps : Array Value) (E : World → Prop) (hE : ∀ w w', E w → Below w.heap.size w w' → E w')
    (hcl : ∀ (x : X) (w' : World), E w' → Calls Tryd.prog fc (first ++ #[.int .i64 (val x)] ++ caps) w' fun e w2 => e = .returned (.int .i64 (v x)) ∧ Below w'.heap.size w' w2)
    (hentc : ∀ (args : Array Value) (w : World), (callFunc fc args).run Tryd.prog w = .ok (.enter fc args) w)
    (hentg : ∀ (args : Array Value) (w : World), (callFunc gf args).run Tryd.prog w = .ok (.enter gf args) w) (w : World) (he : E w) (hBs : Bs < w.heap.size)
    (hst : ∀ (W : World), Below w.heap.size w W → SeqStopsK Fence.wide 2 Tryd.prog gf #[.pointer (some ⟨Bs, 0, none⟩)] (fun x : X => #[Value.int .i64 (val x)]) (fun W W' => W'.heap[Bs]? = W.heap[Bs]?) (fun ys => ys = L) Pp N W) :
    Calls Tryd.prog 56 #[.func (.func gf) #[] #[.pointer (some ⟨Bs, 0, none⟩)], .func (.func fc) first caps] w fun e w' => e = .returned (.tuple #[.int .i64 (valM val (mx v L)), .int .i64 (valM v (mx v L))]) ∧ Below w.heap.size w w' := by
  have hdep : Fence.wide.depth.isSome = false := rfl
  have hfn : ∀ k, Fence.wide.fn k := fun _ => trivial
  have HCL := Lib.hid hcl
  have HE := Lib.hid hE
  have E0 := Lib.hid he
  have HENT := Lib.hid hentc
  have HEG := Lib.hid hentg
  have HST := Lib.hid hst
  clear hcl hE he hentc hentg hst
  refine (callsIn_wide (n := 3)).1 ?_
  refine callsIn_of_wp_marks Tryd.func56 rfl trivial ?_ rfl
  simp only [Tryd.ntmps56, List.size_toArray, List.length_cons, List.length_nil, Nat.reduceAdd, Nat.reduceSub, Array.replicate_succ, Array.replicate_zero, List.push_toArray, List.append_toArray, List.nil_append, List.cons_append]
  gi_upto_region 4 with (fail)
  obtain ⟨W, hW, M⟩ := open64 w (.func (.func fc) first caps)
  (try rw [hW]); clear hW
  gi_wp2_with (fail)
  have hsz : w.heap.size ≤ W.heap.size := M.below.size
  refine wpIn_rangeFunc_ownF rfl (by omega) (gf := gf) (lb := #[.pointer (some ⟨Bs, 0, none⟩)]) rfl trivial HEG.out
    (HST.out W M.below) (fun h k => k.trans h)
    (fun W' l o o' hl ho hc _ => World.putObj_heap_other (fun e => by omega))
    (Below.refl _ _) (fun _ => rfl)
    (fun pre W => Mem w W (M64B w (.func (.func fc) first caps) (valM val (mx v pre)) (valM v (mx v pre)) (mx v pre).isSome))
    (fun _ _ _ => False)
    (fun s A B row hs hg hr => hs.grown hsz hg hr)
    (fun c s A B row hs hg hr => hs)
    M
    (fun x => { tmps := #[.func (.func gf) #[] #[.pointer (some ⟨Bs, 0, none⟩)], .func (.func fc) first caps, undef, .pointer (some ⟨w.heap.size, 0, none⟩), .int .i64 0, .int .i64 0, .pointer (some ⟨w.heap.size + 1, 0, none⟩), .pointer (some ⟨w.heap.size + 1 + 1, 0, none⟩), .pointer (some ⟨w.heap.size + 1 + 1 + 1, 0, none⟩), .int .i64 (val x), undef, .func (.func gf) #[] #[.pointer (some ⟨Bs, 0, none⟩)], .int .i64 (val x), undef, undef, undef, undef, undef, undef, undef, undef, undef, undef, undef, undef, undef, undef], defers := [] }) ?assign ?body ?done ?stop
  case assign =>
    intro l x W K hK
    gi_wp2
    exact hK
  case body =>
    rintro l pre x W5 M5 _
    have hfn' : ∀ k, (Fence.wide.inRound l).fn k := fun _ => trivial
    have hdep' : (Fence.wide.inRound l).depth.isSome = false := rfl
    have cf := (M5.at 0 rfl).cell (i := 0) rfl
    have hcall := HCL.out x W5 (HE.out _ _ E0.out M5.below)
    gi_upto_region 7 with (refine callFstIn hfn' hdep' rfl rfl rfl (first ++ #[.int .i64 (val x)] ++ caps) (by rw [Array.toList_append, Array.toList_append]; rfl) HENT.out (.int .i64 (v x)) (fun w2 => Below W5.heap.size W5 w2) (by exact CallsIn.inRound l (callsIn_wide.2 hcall)) ?_; intro W6 hb6; have M6 := M5.call hb6)
    clear cf hcall
    cases hm : mx v pre with
    | none =>
      have hnew : Hid (mx v (pre ++ [x]) = some x) := Lib.hid (by rw [mx_snoc, hm]; rfl)
      rw [hm] at M6
      have c4 := (M6.at 3 rfl).cell (i := 0) (v := .bool false) rfl
      gi_upto_region 8 with (fail)
      clear c4
      have q1 := (M6.at 1 rfl).cell (i := 0) rfl
      have f1 := (M6.at 1 rfl).free 0
      have q2 := (M6.at 2 rfl).cell (i := 0) rfl
      have f2 := (M6.at 2 rfl).free 0
      have q3 := (M6.at 3 rfl).cell (i := 0) rfl
      have f3 := (M6.at 3 rfl).free 0
      gi_wp2
      have M9 := ((M6.set 1 0 (.int .i64 (val x)) rfl _ rfl).set 2 0 (.int .i64 (v x)) rfl _ rfl).set 3 0 (.bool true) rfl _ rfl
      refine ⟨(((KeepsOthers.of_below hb6).trans (KeepsOthers.setCell _ _ _)).trans (KeepsOthers.setCell _ _ _)).trans (KeepsOthers.setCell _ _ _), (M9.below.block Bs hBs).trans (M5.below.block Bs hBs).symm, ?_⟩
      show Mem w _ (M64B w (.func (.func fc) first caps) (valM val (mx v (pre ++ [x]))) (valM v (mx v (pre ++ [x]))) (mx v (pre ++ [x])).isSome)
      rw [hnew.out]
      exact M9
    | some y =>
      rw [hm] at M6
      have c4 := (M6.at 3 rfl).cell (i := 0) (v := .bool true) rfl
      have c3 := (M6.at 2 rfl).cell (i := 0) (v := .int .i64 (v y)) rfl
      by_cases hlt : v y < v x
      · have hnew : Hid (mx v (pre ++ [x]) = some x) := Lib.hid (by rw [mx_snoc, hm]; show (if v y < v x then _ else _) = _; rw [if_pos hlt])
        gi_upto_region 8 with (fail)
        clear c4 c3
        have q1 := (M6.at 1 rfl).cell (i := 0) rfl
        have f1 := (M6.at 1 rfl).free 0
        have q2 := (M6.at 2 rfl).cell (i := 0) rfl
        have f2 := (M6.at 2 rfl).free 0
        have q3 := (M6.at 3 rfl).cell (i := 0) rfl
        have f3 := (M6.at 3 rfl).free 0
        gi_wp2
        have M9 := ((M6.set 1 0 (.int .i64 (val x)) rfl _ rfl).set 2 0 (.int .i64 (v x)) rfl _ rfl).set 3 0 (.bool true) rfl _ rfl
        refine ⟨(((KeepsOthers.of_below hb6).trans (KeepsOthers.setCell _ _ _)).trans (KeepsOthers.setCell _ _ _)).trans (KeepsOthers.setCell _ _ _), (M9.below.block Bs hBs).trans (M5.below.block Bs hBs).symm, ?_⟩
        show Mem w _ (M64B w (.func (.func fc) first caps) (valM val (mx v (pre ++ [x]))) (valM v (mx v (pre ++ [x]))) (mx v (pre ++ [x])).isSome)
        rw [hnew.out]
        exact M9
      · have hnew : Hid (mx v (pre ++ [x]) = some y) := Lib.hid (by rw [mx_snoc, hm]; show (if v y < v x then _ else _) = _; rw [if_neg hlt])
        gi_wp2
        refine ⟨KeepsOthers.of_below hb6, (M6.below.block Bs hBs).trans (M5.below.block Bs hBs).symm, ?_⟩
        show Mem w _ (M64B w (.func (.func fc) first caps) (valM val (mx v (pre ++ [x]))) (valM v (mx v (pre ++ [x]))) (mx v (pre ++ [x])).isSome)
        rw [hnew.out]
        exact M6
  case done =>
    rintro D xs W5 hD rfl M5 hK
    have c2 := (M5.at 1 rfl).cell (i := 0) rfl
    have c3 := (M5.at 2 rfl).cell (i := 0) rfl
    gi_upto_region 9 with (fail)
    gi_region
    all_goals gi_wp2
    have hK6 : W5.drew.heap[D]? = some (.deferred (some [])) := hK
    refine ⟨by simp, .inl ⟨_, _, rfl, run_takeDeferred hK6, ?_⟩⟩
    have M7 := M5.drew.taken (o' := .deferred none) (Nat.le_trans hsz hD) hK6 rfl
    exact ⟨.tuple #[.int .i64 (valM val (mx v xs)), .int .i64 (valM v (mx v xs))], by simp [results, Tryd.results56, go_sem], rfl, M7.below⟩
  case stop =>
    rintro D c pre W5 hD _ h hK
    exact h.elim
end Go.Proofs.YtmiafnmenolemaaDoor
