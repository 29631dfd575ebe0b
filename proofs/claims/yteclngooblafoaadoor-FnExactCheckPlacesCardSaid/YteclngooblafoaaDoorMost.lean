/-
  The greatest fear of a list of scarecrows, as the program finds it: mostOf over slices.Values.
-/
import Derived.Test.YteclngooblafoaaDoorVals
import Derived.Test.YteclngooblafoaaDoorCoreB
import Derived.BigRegion
import Derived.BigRegionIn
namespace Go.Proofs.YteclngooblafoaaDoor
open Go Go.RowKit Go.Shelf
attribute [local go_sem] Oper.semAt_some

/-- The most of the first ones, if there is one. -/
def moStep (v : Nat → Int) (o : Option Int) (k : Nat) : Option Int := match o with | none => some (v k) | some m => if m < v k then some (v k) else some m
def mo {n : Nat} (v : Nat → Int) (l : List (Fin n)) : Option Int := l.foldl (fun o x => moStep v o x.1) none
theorem mo_snoc {n : Nat} (v : Nat → Int) (l : List (Fin n)) (x : Fin n) : mo v (l ++ [x]) = moStep v (mo v l) x.1 := by unfold mo; rw [List.foldl_append]; rfl
theorem mo_fear {n : Nat} {F : Nat → Nat → Int} {c : Int} (hc : 0 ≤ c ∧ c ≤ 99) (hS : ∀ i, i < n → shapeOk (F i) = true) : ∀ k, k ≤ n → (mo (n := n) (fun i => fearA (F i) c) (finsTo n k)).getD 0 = fearTo F c k ∧ (mo (n := n) (fun i => fearA (F i) c) (finsTo n k) = none ↔ k = 0)
  | 0, _ => ⟨rfl, by simp [mo, finsTo]⟩
  | k + 1, hk => by
    obtain ⟨h1, h2⟩ := mo_fear hc hS k (by omega)
    have hf := fear_in (hS k (by omega)) hc
    rw [finsTo_yes (by omega), mo_snoc]
    cases hm : mo (n := n) (fun i => fearA (F i) c) (finsTo n k) with
    | none =>
      have hk0 := h2.1 hm
      subst hk0
      refine ⟨?_, by simp [moStep]⟩
      show fearA (F 0) c = max 0 (fearA (F 0) c)
      omega
    | some m =>
      rw [hm] at h1
      have e : m = fearTo F c k := h1
      refine ⟨?_, by unfold moStep; dsimp only; split <;> simp⟩
      unfold moStep
      dsimp only
      show Option.getD (if m < fearA (F k) c then some (fearA (F k) c) else some m) 0 = max (fearTo F c k) (fearA (F k) c)
      rw [← e]
      by_cases h : m < fearA (F k) c
      · rw [if_pos h]; show fearA (F k) c = _; omega
      · rw [if_neg h]; show m = _; omega
abbrev SCA (a : Nat → Int) : Array Value := #[.int .i16 (a 0), .int .i16 (a 1), .int .i8 (a 2)]
/-- The blocks of mostOf. -/
abbrev MOB (w : World) (pc : Nat) (a : Nat → Int) (o : Option Int) : List Ent := [⟨w.heap.size, #[.func (.func 83) #[] #[.pointer (some ⟨pc, 0, none⟩)]], 117⟩, ⟨w.heap.size + 1, SCA (fun _ => 0), 71⟩, ⟨w.heap.size + 1 + 1, SCA a, 71⟩, ⟨w.heap.size + 1 + 1 + 1, #[.int .i64 (o.getD 0)], 2⟩, ⟨w.heap.size + 1 + 1 + 1 + 1, #[.bool o.isSome], 4⟩]
theorem openMO (w : World) (pc : Nat) : ∃ W, ((((w.alloc (.cells #[.func (.func 83) #[] #[.pointer (some ⟨pc, 0, none⟩)]] 117)).alloc (.cells (SCA (fun _ => 0)) 71)).alloc (.cells (SCA (fun _ => 0)) 71)).alloc (.cells #[.int .i64 0] 2)).alloc (.cells #[.bool false] 4) = W ∧ Mem w W (MOB w pc (fun _ => 0) none) := by
  have h := (((((Mem.nil w).alloc #[.func (.func 83) #[] #[.pointer (some ⟨pc, 0, none⟩)]] 117).alloc (SCA (fun _ => 0)) 71).alloc (SCA (fun _ => 0)) 71).alloc #[.int .i64 0] 2).alloc #[.bool false] 4
  simp only [World.size_alloc, List.nil_append, List.cons_append] at h
  exact ⟨_, rfl, h⟩
set_option maxRecDepth 100000 in
set_option maxHeartbeats 8000000 in
theorem mostOf_any (n : Nat) (hn : n ≤ 2 ^ 40) (F : Nat → Nat → Int) (hF : ∀ i, i < n → WfT (F i)) (hS : ∀ i, i < n → shapeOk (F i) = true) (c : Int) (hc : 0 ≤ c ∧ c ≤ 99) (d cap bs pc : Nat) (w : World)
    (B : w.cell? ⟨bs, 0, none⟩ = some (.slice (some ⟨d, 0, none⟩) n cap)) (I : InS w d 0 n ksScarecrow F) (P : w.cell? ⟨pc, 0, none⟩ = some (.int .i64 c)) :
    Calls Tryd.prog 81 #[.func (.func 93) #[] #[.pointer (some ⟨bs, 0, none⟩)], .func (.func 83) #[] #[.pointer (some ⟨pc, 0, none⟩)]] w fun e w' => ∃ a, e = .returned (.tuple #[vScarecrow a, .int .i64 (fearTo F c n)]) ∧ Below w.heap.size w w' := by
  have HB := Lib.hid B
  have HI := Lib.hid I
  have HP := Lib.hid P
  have HF := Lib.hid hF
  have HS := Lib.hid hS
  clear B I P hF hS
  have hdep : Fence.wide.depth.isSome = false := rfl
  have hfn : ∀ k, Fence.wide.fn k := fun _ => trivial
  refine (callsIn_wide (n := 3)).1 ?_
  refine callsIn_of_wp_marks Tryd.func81 rfl trivial ?_ rfl
  simp only [Tryd.ntmps81, List.size_toArray, List.length_cons, List.length_nil, Nat.reduceAdd, Nat.reduceSub, Array.replicate_succ, Array.replicate_zero, List.push_toArray, List.append_toArray, List.nil_append, List.cons_append]
  gi_upto_region 4 with (fail)
  obtain ⟨W, hW, M⟩ := openMO w pc
  (try rw [hW]); clear hW
  gi_wp2_with (fail)
  have hsz : w.heap.size ≤ W.heap.size := M.below.size
  have hdl : 0 < n → d < w.heap.size := fun hp => HI.out.lt (by decide) hp
  refine wpIn_rangeFunc_ownH rfl (by omega) (gf := 93) (lb := #[.pointer (some ⟨bs, 0, none⟩)]) rfl trivial (enters_of Tryd.func93 (by kernel_rfl) rfl)
    (vals_stops 2 d n cap hn F bs W (cell_later HB.out M.below) (HI.out.later M.below)) (fun h k hp => (k hp).trans (h hp))
    (fun V l o o' hl ho hc _ hp => World.putObj_heap_other (fun e => by
      have := hdl hp
      omega))
    (Below.refl _ _) (fun _ => rfl)
    (fun pre V => ∃ a, Mem w V (MOB w pc a (mo (fun i => fearA (F i) c) pre)))
    (fun _ _ _ => False)
    (fun s A B row hs hg hr => by
      obtain ⟨a, hs⟩ := hs
      exact ⟨a, hs.grown hsz hg hr⟩)
    (fun c s A B row hs hg hr => hs)
    ⟨_, M⟩
    (fun x a' V => ∃ nb, a' = { tmps := #[.func (.func 93) #[] #[.pointer (some ⟨bs, 0, none⟩)], .func (.func 83) #[] #[.pointer (some ⟨pc, 0, none⟩)], undef, .pointer (some ⟨w.heap.size, 0, none⟩), .pointer (some ⟨w.heap.size + 1, 0, none⟩), .int .i64 0, .pointer (some ⟨w.heap.size + 1 + 1, 0, none⟩), .pointer (some ⟨w.heap.size + 1 + 1 + 1, 0, none⟩), .pointer (some ⟨w.heap.size + 1 + 1 + 1 + 1, 0, none⟩), .pointer (some ⟨nb, 0, none⟩), undef, .func (.func 93) #[] #[.pointer (some ⟨bs, 0, none⟩)], vScarecrow (F x.1), undef, undef, undef, undef, undef, undef, undef, undef, undef, undef, undef, undef, undef, undef], defers := [] } ∧ Blk V nb (SCL F x.1) 71)
    (fun x a' _ A B row hs hg hr => by
      obtain ⟨nb, e, P⟩ := hs
      exact ⟨nb, e, P.grown hg (fun r e => (hr r e).2)⟩)
    ?assign ?body ?done ?stop
  case assign =>
    rintro l pre x V K ⟨a, MV⟩ hK
    gi_wp2
    exact hK _ _ ((KeepsOthers.of_below ((Below.refl _ _).alloc (Nat.le_refl _) _)).from _) (fun hp => ((Below.refl V.heap.size V).alloc (Nat.le_refl _) _).block d (Nat.lt_of_lt_of_le (hdl hp) MV.below.size)) ⟨a, MV.call ((Below.refl _ _).alloc (Nat.le_refl _) _)⟩ ⟨_, rfl, Blk.new _ _ _⟩
  case body =>
    rintro l pre x a' W5 hl _ ⟨a, M5⟩ ⟨nb, rfl, P5⟩ _
    have hfn' : ∀ k, (Fence.wide.inRound l).fn k := fun _ => trivial
    have hdep' : (Fence.wide.inRound l).depth.isSome = false := rfl
    have ha := HF.out x.1 x.2
    have hs := HS.out x.1 x.2
    have c0 := (M5.at 0 rfl).cell (i := 0) rfl
    have hpc := Lib.hid (cell_later HP.out M5.below)
    gi_upto_region 7 with (first
      | (refine loadIn hfn' rfl 71 _ rfl nb 0 rfl (SCL F x.1) _ P5.whole Tryd.underlying71 rfl (by kernel_rfl) ?_)
      | (gi_at_call 83; refine (CallsIn.inRound l (callsIn_wide.2 (fear_closure (F x.1) ha hs c hc pc _ hpc.out))).mono ?_; rintro e W6 ⟨rfl, hb6⟩; have M6 := M5.call hb6; have P6 := P5.later hb6))
    clear c0
    cases hm : mo (fun i => fearA (F i) c) pre with
    | none =>
      have hnew : Hid (mo (fun i => fearA (F i) c) (pre ++ [x]) = some (fearA (F x.1) c)) := Lib.hid (by rw [mo_snoc, hm]; rfl)
      rw [hm] at M6
      have c4 := (M6.at 4 rfl).cell (i := 0) (v := .bool false) rfl
      gi_upto_region 8 with (fail)
      clear c4
      have q20 := (M6.at 2 rfl).cell (i := 0) (v := .int .i16 (a 0)) rfl
      have q21 := (M6.at 2 rfl).cell (i := 1) (v := .int .i16 (a 1)) rfl
      have q22 := (M6.at 2 rfl).cell (i := 2) (v := .int .i8 (a 2)) rfl
      have f20 := (M6.at 2 rfl).free 0
      have f21 := (M6.at 2 rfl).free 1
      have f22 := (M6.at 2 rfl).free 2
      have q3 := (M6.at 3 rfl).cell (i := 0) rfl
      have f3 := (M6.at 3 rfl).free 0
      have q4 := (M6.at 4 rfl).cell (i := 0) rfl
      have f4 := (M6.at 4 rfl).free 0
      gi_wp2_with (refine loadIn hfn' rfl 71 _ rfl nb 0 rfl (SCL F x.1) _ P6.whole Tryd.underlying71 rfl (by kernel_rfl) ?_)
      have M9 := ((((M6.set 2 0 (.int .i16 (F x.1 0)) rfl _ rfl).set 2 1 (.int .i16 (F x.1 1)) rfl _ rfl).set 2 2 (.int .i8 (F x.1 2)) rfl _ rfl).set 3 0 (.int .i64 (fearA (F x.1) c)) rfl _ rfl).set 4 0 (.bool true) rfl _ rfl
      refine ⟨((((((KeepsOthers.of_below hb6).trans (KeepsOthers.setCell _ _ _)).trans (KeepsOthers.setCell _ _ _)).trans (KeepsOthers.setCell _ _ _)).trans (KeepsOthers.setCell _ _ _)).trans (KeepsOthers.setCell _ _ _)).from _, fun hp => (M9.below.block d (hdl hp)).trans (M5.below.block d (hdl hp)).symm, F x.1, ?_⟩
      show Mem w _ (MOB w pc (F x.1) (mo (fun i => fearA (F i) c) (pre ++ [x])))
      rw [hnew.out]
      exact M9
    | some mm =>
      rw [hm] at M6
      have c4 := (M6.at 4 rfl).cell (i := 0) (v := .bool true) rfl
      have c3 := (M6.at 3 rfl).cell (i := 0) (v := .int .i64 mm) rfl
      by_cases hlt : mm < fearA (F x.1) c
      · have hnew : Hid (mo (fun i => fearA (F i) c) (pre ++ [x]) = some (fearA (F x.1) c)) := Lib.hid (by rw [mo_snoc, hm]; show (if mm < fearA (F x.1) c then _ else _) = _; rw [if_pos hlt])
        gi_upto_region 8 with (fail)
        clear c4 c3
        have q20 := (M6.at 2 rfl).cell (i := 0) (v := .int .i16 (a 0)) rfl
        have q21 := (M6.at 2 rfl).cell (i := 1) (v := .int .i16 (a 1)) rfl
        have q22 := (M6.at 2 rfl).cell (i := 2) (v := .int .i8 (a 2)) rfl
        have f20 := (M6.at 2 rfl).free 0
        have f21 := (M6.at 2 rfl).free 1
        have f22 := (M6.at 2 rfl).free 2
        have q3 := (M6.at 3 rfl).cell (i := 0) rfl
        have f3 := (M6.at 3 rfl).free 0
        have q4 := (M6.at 4 rfl).cell (i := 0) rfl
        have f4 := (M6.at 4 rfl).free 0
        gi_wp2_with (refine loadIn hfn' rfl 71 _ rfl nb 0 rfl (SCL F x.1) _ P6.whole Tryd.underlying71 rfl (by kernel_rfl) ?_)
        have M9 := ((((M6.set 2 0 (.int .i16 (F x.1 0)) rfl _ rfl).set 2 1 (.int .i16 (F x.1 1)) rfl _ rfl).set 2 2 (.int .i8 (F x.1 2)) rfl _ rfl).set 3 0 (.int .i64 (fearA (F x.1) c)) rfl _ rfl).set 4 0 (.bool true) rfl _ rfl
        refine ⟨((((((KeepsOthers.of_below hb6).trans (KeepsOthers.setCell _ _ _)).trans (KeepsOthers.setCell _ _ _)).trans (KeepsOthers.setCell _ _ _)).trans (KeepsOthers.setCell _ _ _)).trans (KeepsOthers.setCell _ _ _)).from _, fun hp => (M9.below.block d (hdl hp)).trans (M5.below.block d (hdl hp)).symm, F x.1, ?_⟩
        show Mem w _ (MOB w pc (F x.1) (mo (fun i => fearA (F i) c) (pre ++ [x])))
        rw [hnew.out]
        exact M9
      · have hnew : Hid (mo (fun i => fearA (F i) c) (pre ++ [x]) = some mm) := Lib.hid (by rw [mo_snoc, hm]; show (if mm < fearA (F x.1) c then _ else _) = _; rw [if_neg hlt])
        gi_wp2
        refine ⟨(KeepsOthers.of_below hb6).from _, fun hp => (M6.below.block d (hdl hp)).trans (M5.below.block d (hdl hp)).symm, a, ?_⟩
        show Mem w _ (MOB w pc a (mo (fun i => fearA (F i) c) (pre ++ [x])))
        rw [hnew.out]
        exact M6
  case done =>
    rintro D xs W5 hD rfl ⟨a, M5⟩ hK
    obtain ⟨hfin, hiff⟩ := mo_fear (c := c) hc HS.out n (Nat.le_refl _)
    have c2 := Lib.hid hiff
    have c3 := (M5.at 3 rfl).cell (i := 0) (v := .int .i64 ((mo (fun i => fearA (F i) c) (finsTo n n)).getD 0)) rfl
    rw [hfin] at c3
    have d0 := (M5.at 2 rfl).cell (i := 0) (v := .int .i16 (a 0)) rfl
    have d1 := (M5.at 2 rfl).cell (i := 1) (v := .int .i16 (a 1)) rfl
    have d2 := (M5.at 2 rfl).cell (i := 2) (v := .int .i8 (a 2)) rfl
    have g0 := (M5.at 1 rfl).cell (i := 0) (v := .int .i16 0) rfl
    have g1 := (M5.at 1 rfl).cell (i := 1) (v := .int .i16 0) rfl
    have g2 := (M5.at 1 rfl).cell (i := 2) (v := .int .i8 0) rfl
    have e0 := (M5.at 1 rfl).free 0
    have e1 := (M5.at 1 rfl).free 1
    have e2 := (M5.at 1 rfl).free 2
    gi_upto_region 9 with (fail)
    gi_region
    all_goals gi_wp2
    have M6 := ((M5.set 1 0 (.int .i16 (a 0)) rfl _ rfl).set 1 1 (.int .i16 (a 1)) rfl _ rfl).set 1 2 (.int .i8 (a 2)) rfl _ rfl
    have hK6 := (((KeepsOthers.setCell W5 ⟨w.heap.size + 1, 0, none⟩ (.int .i16 (a 0))).trans (KeepsOthers.setCell _ ⟨w.heap.size + 1, 1, none⟩ (.int .i16 (a 1)))).trans (KeepsOthers.setCell _ ⟨w.heap.size + 1, 2, none⟩ (.int .i8 (a 2)))).same D _ hK rfl
    refine ⟨by simp, .inl ⟨_, _, rfl, run_takeDeferred hK6, ?_⟩⟩
    have M7 := M6.drew.taken (o' := .deferred none) (Nat.le_trans hsz hD) hK6 rfl
    exact ⟨_, results_row_tmp rfl _ _ (w.heap.size + 1) 71 _ _ _ rfl (M7.at 1 rfl) Tryd.underlying71 rfl (by kernel_rfl), a, rfl, M7.below⟩
  case stop =>
    rintro D c pre W5 hD _ h hK
    exact h.elim
end Go.Proofs.YteclngooblafoaaDoor
