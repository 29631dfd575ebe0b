/-
  slices.Collect over a set's iterator: a slice of its own with the set's numbers, ascending; ListOf of the program.
-/
import Derived.Test.YtniibbgcdaijfaaDoorNums
import Derived.Test.YtniibbgcdaijfaaDoorList
import Derived.RangeFuncBox
import Derived.OwnWalkIn
import Derived.Deep.Onto
namespace Go.Proofs.YtniibbgcdaijfaaDoor
open Go Go.RowKit Go.Shelf
attribute [local go_sem] Oper.semAt_some

theorem numsTo_hlist (g : Nat → Int) : ∀ n, n ≤ 100 → (numsTo g n).map (fun x => Value.int .i64 (x.1 : Int)) = (hlist g n).map (Value.int .i64)
  | 0, _ => rfl
  | n + 1, hn => by
    have ih := numsTo_hlist g n (by omega)
    cases h : hasC g (n : Int) with
    | true => rw [numsTo_yes ⟨by omega, h⟩, hlist_hit h, List.map_append, ih]; simp
    | false => rw [numsTo_no h, hlist_miss h, ih]
theorem numsTo_hlen (g : Nat → Int) : (numsTo g 100).length = (hlist g 100).length := by
  have := congrArg List.length (numsTo_hlist g 100 (Nat.le_refl _))
  simpa using this
theorem numsTo_nil (g : Nat → Int) : numsTo g 100 = [] ↔ hlist g 100 = [] := by
  rw [← List.length_eq_zero_iff, numsTo_hlen, List.length_eq_zero_iff]
theorem not_cells_ne {W : World} {b : Nat} {cs : Array Value} {t : TypeId} (B : Blk W b cs t) {D : Nat} {o : Obj} (hD : W.heap[D]? = some o) (ho : o.isCells = false) : D ≠ b := by
  rintro rfl
  rw [show W.heap[D]? = _ from B] at hD; cases hD; cases ho
theorem set_same {n₀ : Nat} {W W' : World} {b : Nat} (h : Below n₀ W W') (hb : b < n₀) : W'.heap[b]? = W.heap[b]? := h.block b hb
set_option maxRecDepth 100000 in
set_option maxHeartbeats 2000000 in
theorem appendSeq_any (g : Nat → Int) (Bs : Nat) (w : World) (B : Blk w Bs (acells .u64 2 g) 38) :
    Calls Tryd.prog 85 #[.slice none 0 0, .func (.func 68) #[] #[.pointer (some ⟨Bs, 0, none⟩)]] w fun e w' => ∃ v, e = .returned v ∧
      w'.ownsRow w.heap.size 2 1 v (hlist g 100).length ((hlist g 100).map (Value.int .i64)) ∧ (v = .slice none 0 0 ↔ hlist g 100 = []) ∧ Below w.heap.size w w' := by
  obtain ⟨i0, hi, hz0, hz1, hz2⟩ := info_parts infoI64
  have hdep : Fence.wide.depth.isSome = false := rfl
  have hfn : ∀ k, Fence.wide.fn k := fun _ => trivial
  have hlt := B.lt
  refine (callsIn_wide (n := 3)).1 ?_
  refine callsIn_of_wp_marks Tryd.func85 rfl trivial ?_ rfl
  simp only [Tryd.ntmps85, List.size_toArray, List.length_cons, List.length_nil, Nat.reduceAdd, Nat.reduceSub, Array.replicate_succ, Array.replicate_zero, List.push_toArray, List.append_toArray, List.nil_append, List.cons_append]
  gi_wp2_with (fail)
  have bO := Boxed.new w 51 (.slice none 0 0)
  have hB0 : Below w.heap.size w (w.alloc (.cells #[.slice none 0 0] 51)) := (Below.refl _ w).alloc (Nat.le_refl _) _
  generalize hW0 : w.alloc (.cells #[.slice none 0 0] 51) = W0 at bO hB0 ⊢
  have hsz := hB0.size
  refine wpIn_rangeFunc_ownF rfl (by omega) (gf := 68) (lb := #[.pointer (some ⟨Bs, 0, none⟩)]) rfl trivial (enters_of Tryd.func68 (by kernel_rfl) rfl)
    (nums_stops 2 Bs g w B) (fun h k => k.trans h)
    (fun W l o o' hl ho hc _ => World.putObj_heap_other (fun e => by omega))
    hB0 (fun _ => rfl)
    (fun pre W => (∃ v, Boxed W w.heap.size 51 v ∧ W.ownsRow w.heap.size 2 1 v pre.length (pre.map fun x => Value.int .i64 (x.1 : Int)) ∧ (v = .slice none 0 0 ↔ pre = [])) ∧ Below w.heap.size w W)
    (fun _ _ _ => False)
    (OwnFrom.and (Own.from (holdsRow_own w.heap.size w.heap.size 51 2 1 (fun pre : List (NumOf g) => pre.length) (fun pre => pre.map fun x => Value.int .i64 (x.1 : Int)) (fun pre v => v = .slice none 0 0 ↔ pre = [])) _) (ownFrom_below (Nat.le_refl _) (by omega)))
    (fun _ _ _ _ _ hs _ _ => hs)
    ⟨⟨_, bO, World.ownsRow_nil _ _ _ _, by simp⟩, hB0⟩
    (fun x => { tmps := #[.slice none 0 0, .func (.func 68) #[] #[.pointer (some ⟨Bs, 0, none⟩)], .pointer (some ⟨w.heap.size, 0, none⟩), undef, .slice none 0 0, .int .i64 (x.1 : Int), .func (.func 68) #[] #[.pointer (some ⟨Bs, 0, none⟩)], .int .i64 (x.1 : Int), undef, undef, undef, undef, undef], defers := [] }) ?assign ?body ?done ?stop
  case assign =>
    intro l x W K hK
    gi_wp2
    exact hK
  case body =>
    rintro l pre x W ⟨⟨v, hv, hrow, _⟩, hB⟩ hlen
    have hc := hv.cell
    gi_wp2_with (gi_at_builtin; refine wpListIn_append_own _ rfl _ _ 51 rfl w.heap.size 2 i0 (.int .i64 0) 1 8 Tryd.underlying51 hi hz0 hz1 hz2 rfl (by decide) _ _ _ rfl (hrow.alloc _) ⟨W.heap.size, 0, none⟩ 1 1 [.int .i64 (x.1 : Int)] rfl rfl (cell_one_new _ _ _) (by simp [Value.oneCell']) (by unfold maxLen; omega) (by omega) (by have := hB.size; simp; omega) ?_; intro v' w1 hown' hgrow _; obtain ⟨g', cap', rfl⟩ := ownsRow_succ hown'; obtain ⟨hv1, hv2, hr2, hk2, hb2⟩ := hv.appended (by decide) hrow hB.size (Nat.le_refl _) hown' hgrow; have hc1 := hv1.cell; have hf1 := hv1.frozen)
    exact ⟨hk2, set_same hb2 hlt, ⟨_, hv2, by simpa using hr2, by simp⟩, hB.trans hb2⟩
  case done =>
    rintro D ys W hD rfl ⟨⟨v, hv, hrow, hnil⟩, hB⟩ hK
    have hc := hv.cell
    gi_wp2
    refine ⟨by simp, .inl ⟨_, _, rfl, run_takeDeferred hK, ?_⟩⟩
    rw [numsTo_hlist g 100 (Nat.le_refl _), numsTo_hlen g] at hrow
    exact ⟨_, results_tmp rfl _ _ _, v, rfl, ownsRow_putObj hrow _ hK rfl, hnil.trans (numsTo_nil g), hB.trans (belowK_b (w := w) (Nat.le_refl _) W D _ _ (by omega) hK rfl rfl)⟩
  case stop =>
    rintro D c pre W _ _ h _
    exact h.elim
theorem collect_any (g : Nat → Int) (Bs : Nat) (w : World) (B : Blk w Bs (acells .u64 2 g) 38) :
    Calls Tryd.prog 65 #[.func (.func 68) #[] #[.pointer (some ⟨Bs, 0, none⟩)]] w fun e w' => ∃ v, e = .returned v ∧
      w'.ownsRow w.heap.size 2 1 v (hlist g 100).length ((hlist g 100).map (Value.int .i64)) ∧ (v = .slice none 0 0 ↔ hlist g 100 = []) ∧ Below w.heap.size w w' := by
  go_enter Tryd.func65, Tryd.ntmps65
  go_wp2_with (go_at_call 85; refine (appendSeq_any g Bs _ B).mono ?_; rintro e w' ⟨v, rfl, ho, hv, hb⟩)
  go_ret
  exact ⟨v, rfl, ho, hv, hb⟩
set_option maxRecDepth 100000 in
theorem implListOf (g : Nat → Int) (w : World) : Calls Tryd.prog 41 #[.agg (acells .u64 2 g)] w fun e w' => ∃ v, e = .returned v ∧
      w'.ownsRow w.heap.size 2 1 v (hlist g 100).length ((hlist g 100).map (Value.int .i64)) ∧ (v = .slice none 0 0 ↔ hlist g 100 = []) ∧ Below w.heap.size w w' := by
  go_enter Tryd.func41, Tryd.ntmps41
  go_upto_region 1 with (fail)
  obtain ⟨W, hW, M⟩ := open1 w (acells .u64 2 g) 38
  rw [hW]; clear hW
  have hs := M.below.size
  go_wp2_with (first
    | (refine wpList_load_part rfl 38 _ rfl w.heap.size 0 rfl (acells .u64 2 g) _ (M.at 0 rfl).whole Tryd.underlying38 rfl (by rw [acells_size]; exact sizeC) ?_)
    | (go_at_call 46; refine (numbersIn_any g _).mono ?_; rintro e w1 ⟨rfl, rfl⟩)
    | (go_at_call 65; refine (collect_any g W.heap.size _ (Blk.new _ _ _)).mono ?_; rintro e w2 ⟨v, rfl, ho, hv, hb⟩))
  go_ret
  simp only [World.size_alloc] at ho hb
  exact ⟨v, rfl, ho.mono (by omega), hv, (M.below.alloc hs _).trans (hb.mono (by omega))⟩
end Go.Proofs.YtniibbgcdaijfaaDoor
