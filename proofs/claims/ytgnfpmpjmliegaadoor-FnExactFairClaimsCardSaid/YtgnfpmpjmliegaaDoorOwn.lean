/-
  Owners that are valid for a field: the model's test, the program's.
-/
import Derived.Test.YtgnfpmpjmliegaaDoorValid
import Derived.Test.YtgnfpmpjmliegaaDoorRegM
import Derived.Test.YtgnfpmpjmliegaaDoorRowB
import Derived.Test.YtgnfpmpjmliegaaDoorOpen
import Derived.Lib.Hide
import Derived.Outline
import Derived.OwnWalk
namespace Go.Proofs.YtgnfpmpjmliegaaDoor
open Go Go.RowKit Go.Shelf
attribute [local go_sem] Oper.semAt_some

/-- Is what a number has as in valid owners of the field? -/
def ownOk (f : Fd) (o : Nat → Int) (i : Nat) : Bool := if isCell f i then inB (o i) 0 9 else o i == -1
def ownFit (f : Fd) (o : Nat → Int) : Bool := allTo 100 (ownOk f o)
def ownB (f : Fd) (o : Nat → Int) : Bool := okF f && ownFit f o
/-- Each owner fits its kind. -/
def WfO (o : Nat → Int) : Prop := ∀ i, i < 100 → -128 ≤ o i ∧ o i ≤ 127
theorem wfO_of {o : Nat → Int} (h : ∀ i, i < 100 → (Lit.int .i8 (o i)).wf = true) : WfO o := fun i hi => bounds_i8 (h i hi)

set_option maxRecDepth 100000 in
set_option maxHeartbeats 2000000 in
theorem l06Owners_any (f : Fd) (hf : f.Wf) (o : Nat → Int) (ho : WfO o) (b c : Nat) (w : World) (B : Blk w b (fcells f) 32) (G : Blk w c (acells .i8 100 o) 34) :
    Calls Tryd.prog 33 #[.pointer (some ⟨b, 0, none⟩), .pointer (some ⟨c, 0, none⟩)] w fun e w' => e = .returned (.bool (ownB f o)) ∧ w = w' := by
  unfold ownB ownFit
  cases hok : okF f with
  | false =>
    go_enter Tryd.func33, Tryd.ntmps33
    go_wp2_with (go_at_call 45; refine (l01Ok_any f hf b _ B).mono ?_; rintro e w' ⟨rfl, rfl⟩; rw [hok])
    go_ret
    exact ⟨rfl, rfl⟩
  | true =>
    go_enter Tryd.func33, Tryd.ntmps33
    go_wp2_with (go_at_call 45; refine (l01Ok_any f hf b _ B).mono ?_; rintro e w' ⟨rfl, rfl⟩; rw [hok])
    have HB := Lib.hid B
    have HG := Lib.hid G
    have HO := Lib.hid ho
    clear B G ho
    go_loop [5] (fun i => ∃ k : Nat, k ≤ 100 ∧ i = .int .i64 k ∧ Hid (∀ i, i < k → ownOk f o i = true)) (fun i => 100 - (intOf i).toNat)
    case atStart => exact ⟨0, by omega, rfl, Lib.hid (fun i hi => by omega)⟩
    case round =>
      obtain ⟨k, hk, rfl, hall⟩ := hrel
      by_cases hlt : k < 100
      · have cG := HG.out.cell (acells_get _ _ o k hlt)
        obtain ⟨hg1, hg2⟩ := HO.out k hlt
        cases q1 : isCell f k with
        | true =>
          cases q2 : inB (o k) 0 9 with
          | true =>
            have hc : Hid (ownOk f o k = true) := Lib.hid (by simp [ownOk, q1, q2])
            go_wp2_with (first | (go_at_call 46; refine (l01Is_any f _ b _ hf.W hf.H HB.out).mono ?_; rintro e w' ⟨rfl, rfl⟩; rw [q1]) | (go_at_call 47; refine (l00In_any _ _ _ _).mono ?_; rintro e w' ⟨rfl, rfl⟩; rw [q2]))
            go_round
            case rel => exact ⟨k + 1, by omega, by go_num, Lib.hid (upto_succ hall.out hc.out)⟩
            case measure => simp [intOf]; omega
          | false =>
            have hc : Hid (allTo 100 (ownOk f o) = false) := Lib.hid (allTo_false hlt (by simp [ownOk, q1, q2]))
            go_wp2_with (first | (go_at_call 46; refine (l01Is_any f _ b _ hf.W hf.H HB.out).mono ?_; rintro e w' ⟨rfl, rfl⟩; rw [q1]) | (go_at_call 47; refine (l00In_any _ _ _ _).mono ?_; rintro e w' ⟨rfl, rfl⟩; rw [q2]))
            go_ret
            exact ⟨by rw [hc.out]; rfl, rfl⟩
        | false =>
          cases q2 : (o k != -1) with
          | false =>
            have hc : Hid (ownOk f o k = true) := Lib.hid (by simp [ownOk, q1]; simpa using q2)
            go_wp2_with (first | (go_at_call 46; refine (l01Is_any f _ b _ hf.W hf.H HB.out).mono ?_; rintro e w' ⟨rfl, rfl⟩; rw [q1]))
            go_round
            case rel => exact ⟨k + 1, by omega, by go_num, Lib.hid (upto_succ hall.out hc.out)⟩
            case measure => simp [intOf]; omega
          | true =>
            have hc : Hid (allTo 100 (ownOk f o) = false) := Lib.hid (allTo_false hlt (by simp [ownOk, q1]; simpa using q2))
            go_wp2_with (first | (go_at_call 46; refine (l01Is_any f _ b _ hf.W hf.H HB.out).mono ?_; rintro e w' ⟨rfl, rfl⟩; rw [q1]))
            go_ret
            exact ⟨by rw [hc.out]; rfl, rfl⟩
      · have hc : Hid (allTo 100 (ownOk f o) = true) := Lib.hid (allTo_iff.2 (fun i hi => hall.out i (by omega)))
        go_wp2_with fail
        go_ret
        exact ⟨by rw [hc.out]; rfl, rfl⟩

theorem zeroO : Tryd.zeroCells34 = acells .i8 100 (fun _ => 0) := by kernel_rfl
theorem zrunO (w : World) : (zeroValue 34).run Tryd.prog w = .ok (.agg Tryd.zeroCells34) w := zero_run (by kernel_rfl) w
theorem sizeOw : (Tryd.prog.info? 34).map (·.size) = some 100 := by kernel_rfl
theorem sizeO8 : (Tryd.prog.info? 28).map (·.size) = some 100 := by kernel_rfl
theorem run_equalIn_own (f g : Nat → Int) (hf : WfO f) (hg : WfO g) (w : World) : (Op.equalIn 10000 34 (.agg (acells .i8 100 f)) (.agg (acells .i8 100 g))).run Tryd.prog w = .ok (rowEq 100 f g) w := by
  have hk : Tryd.prog.keyTypeAt 5 34 = true := by kernel_rfl
  have fm : ∀ f, (Value.agg (acells .i8 100 f)).formed Tryd.prog 34 = true := fun f => by
    simp only [Value.formed, Tryd.underlying34, acells_size]; kernel_rfl
  obtain ⟨r, hr, hiff⟩ := run_equalIn_deep 9995 5 34 hk w _ _ (.agg (acells .i8 100 f)) (.agg (acells .i8 100 g)) _ _ (fm f) (fm g)
    (keyLits_ints 0 Tryd.underlying34 Tryd.underlying22 (by kernel_rfl) (by kernel_rfl) f (fun i hi => lit_i8 (hf i hi))) (keyLits_ints 0 Tryd.underlying34 Tryd.underlying22 (by kernel_rfl) (by kernel_rfl) g (fun i hi => lit_i8 (hg i hi)))
  have e : r = rowEq 100 f g := by
    rw [Bool.eq_iff_iff, rowEq_iff (k := .i8), hiff]
    constructor
    · intro h
      have h2 : (List.range 100).map (fun i => Value.int .i8 (f i)) = (List.range 100).map (fun i => Value.int .i8 (g i)) := by
        have := congrArg (List.map Lit.toCell) h
        simpa [List.map_map, Function.comp_def, Lit.toCell] using this
      exact congrArg List.toArray h2
    · intro h
      exact List.map_congr_left (fun i hi => by rw [acells_inj h i (List.mem_range.1 hi)])
  subst e
  exact hr
theorem of_any (o : Nat → Int) (ho : WfO o) (k : Nat) (hk : k < 100) (w : World) : Calls Tryd.prog 41 #[.agg (acells .i8 100 o), .int .i64 k] w fun e w' => e = .returned (.int .i64 (o k)) ∧ Below w.heap.size w w' := by
  obtain ⟨h1, h2⟩ := ho k hk
  have hk1 : (k : Int) < 100 := by omega
  go_enter Tryd.func41, Tryd.ntmps41
  go_upto_region 1 with (fail)
  obtain ⟨W, hW, M⟩ := open1 w (acells .i8 100 o) 34
  rw [hW]; clear hW
  have c0 := (M.at 0 rfl).cell (acells_get _ _ o k hk)
  go_wp2_with fail
  go_ret
  exact ⟨rfl, M.below⟩
theorem isOwner_any (n : Int) (w : World) : Calls Tryd.prog 50 #[.int .i64 n] w fun e w' => e = .returned (.bool (inB n 0 9)) ∧ w = w' := by
  by_cases h1 : 0 ≤ n
  · have hr : inB n 0 9 = decide (n < 10) := by unfold inB; rw [decide_eq_true h1, Bool.true_and]; exact decide_eq_decide.2 (by omega)
    rw [hr]; clear hr
    go_enter Tryd.func50, Tryd.ntmps50
    go_wp2_with fail
    go_ret
    exact ⟨rfl, rfl⟩
  · rw [inB_false (.inl (by omega))]
    go_enter Tryd.func50, Tryd.ntmps50
    go_wp2_with fail
    go_ret
    exact ⟨rfl, rfl⟩
set_option maxRecDepth 100000 in
set_option maxHeartbeats 2000000 in
theorem noOwners_any (w : World) : Calls Tryd.prog 51 #[] w fun e w' => e = .returned (.agg (acells .i8 100 (fun _ => -1))) ∧ Below w.heap.size w w' := by
  go_enter Tryd.func51, Tryd.ntmps51
  go_upto_region 2 with (fail)
  rw [zeroO]
  obtain ⟨W, hW, M⟩ := open2 w (acells .i8 100 (fun _ => 0)) 34 (acells .i8 100 (fun _ => 0)) 34
  rw [hW]; clear hW
  go_wp2_with fail
  have e0 : acells .i8 100 (fun _ => 0) = acells .i8 100 (fun j => if j < 0 then -1 else 0) := acells_congr (fun i hi => by simp)
  have M4 : Mem w W [⟨w.heap.size, acells .i8 100 (fun _ => 0), 34⟩, ⟨w.heap.size + 1, acells .i8 100 (fun j => if j < 0 then -1 else 0), 34⟩] := by rw [← e0]; exact M
  clear M e0
  go_loopw [3] (fun i wr => ∃ k : Nat, k ≤ 100 ∧ i = .int .i64 k ∧ Hid (Mem w wr [⟨w.heap.size, acells .i8 100 (fun _ => 0), 34⟩, ⟨w.heap.size + 1, acells .i8 100 (fun j => if j < k then -1 else 0), 34⟩])) (fun i _ => 100 - (intOf i).toNat)
  case atStart => exact ⟨0, by omega, rfl, Lib.hid M4⟩
  case round =>
    clear M4
    obtain ⟨k, hk', rfl, hM⟩ := hrel
    by_cases hlt : k < 100
    · have f3 := (hM.out.at 1 rfl).free k
      have c3 := (hM.out.at 1 rfl).cell (acells_get _ _ _ k hlt)
      have e8 : acells .i8 100 (fun j => if j = k then -1 else if j < k then -1 else 0) = acells .i8 100 (fun j => if j < k + 1 then -1 else 0) := acells_congr (fun i _ => by
        by_cases e : i = k
        · subst e; simp
        · by_cases e2 : i < k
          · simp [e, e2, Nat.lt_succ_of_lt e2]
          · simp [e, e2]; omega)
      have M7 := hM.out.set 1 k (.int .i8 (-1)) rfl _ (acells_set _ _ _ _ _ hlt)
      rw [e8] at M7
      have M8 := Lib.hid M7
      clear M7 e8
      go_wp2_with fail
      go_roundw
      case rel => exact ⟨k + 1, by omega, by go_num, M8⟩
      case measure => simp [intOf]; omega
    · obtain rfl : k = 100 := by omega
      have e3 : acells .i8 100 (fun j => if j < 100 then (-1 : Int) else 0) = acells .i8 100 (fun _ => -1) := acells_congr (fun i hi => by rw [if_pos hi])
      have M3 := hM.out
      rw [e3] at M3
      go_wp2_with (first
        | (refine wpList_load_part rfl 34 _ rfl (w.heap.size + 1) 0 rfl (acells .i8 100 (fun _ => -1)) _ (M3.at 1 rfl).whole Tryd.underlying34 rfl (by rw [acells_size]; exact sizeOw) ?_)
        | (refine wpList_store_row rfl 34 _ _ rfl w.heap.size (acells .i8 100 (fun _ => -1)) rfl rfl 34 _ (M3.at 0 rfl) (by rw [acells_size]; exact sizeOw) (by rw [acells_size, acells_size]) (acells_one _ _ _) ?_))
      have M4 := M3.row 0 rfl (acells .i8 100 (fun _ => -1))
      exact bodyPost_ret (results_cell_row rfl _ _ w.heap.size 34 _ _ _ rfl (M4.at 0 rfl) Tryd.underlying34 rfl (by rw [acells_size]; exact sizeOw)) rfl ⟨rfl, M4.below⟩
/-- The owners outside of some cells. -/
def outO {f : Fd} (o : Nat → Int) (l : List (CellOf f)) : Nat → Int := l.foldl (fun g c => fun j => if j = c.1 then -1 else g j) o
theorem outO_snoc {f : Fd} (o : Nat → Int) (l : List (CellOf f)) (c : CellOf f) : outO o (l ++ [c]) = fun j => if j = c.1 then -1 else outO o l j := by simp [outO, List.foldl_append]
theorem outO_wf {f : Fd} {o : Nat → Int} (h : WfO o) (l : List (CellOf f)) : WfO (outO o l) := by
  suffices ∀ (l : List (CellOf f)) (g : Nat → Int), WfO g → WfO (l.foldl (fun g c => fun j => if j = c.1 then -1 else g j) g) from this l o h
  intro l
  induction l with
  | nil => intro g hg; exact hg
  | cons c l ih =>
    intro g hg
    refine ih _ (fun i hi => ?_)
    simp only []
    split
    · omega
    · exact hg i hi
theorem outO_at {f : Fd} (o : Nat → Int) (n k : Nat) : outO o (cellsTo f n) k = if k < n ∧ isCell f k = true then -1 else o k := by
  induction n with
  | zero => simp [cellsTo, outO]
  | succ n ih =>
    by_cases h : isCell f n = true
    · rw [cellsTo_yes h, outO_snoc]
      simp only []
      by_cases e : k = n
      · subst e; simp [h]
      · have e1 : (k < n + 1 ∧ isCell f k = true) ↔ (k < n ∧ isCell f k = true) := by constructor <;> (rintro ⟨a, b⟩; exact ⟨by omega, b⟩)
        rw [if_neg e, ih]; simp only [e1]
    · have h' : isCell f n = false := by simpa using h
      rw [cellsTo_no h', ih]
      by_cases e : k = n
      · subst e; simp [h']
      · have e1 : (k < n + 1 ∧ isCell f k = true) ↔ (k < n ∧ isCell f k = true) := by constructor <;> (rintro ⟨a, b⟩; exact ⟨by omega, b⟩)
        simp only [e1]
theorem own_all {f : Fd} {o : Nat → Int} (h : ∀ c ∈ cellsTo f 100, inB (o c.1) 0 9 = true) : rowEq 100 (outO o (cellsTo f 100)) (fun _ => -1) = ownFit f o := by
  unfold rowEq ownFit
  refine allTo_congr (fun k hk => ?_)
  rw [outO_at o 100 k]
  by_cases hc : isCell f k = true
  · rw [if_pos ⟨hk, hc⟩]
    unfold ownOk
    rw [if_pos hc, h ⟨k, hc⟩ (cellsTo_mem.2 hk)]; rfl
  · rw [if_neg (fun x => hc x.2)]
    unfold ownOk
    rw [if_neg hc]
theorem own_bad {f : Fd} {o : Nat → Int} {k : Nat} (hc : isCell f k = true) (h : inB (o k) 0 9 = false) : ownFit f o = false := allTo_false (isCell_lt hc) (by unfold ownOk; rw [if_pos hc]; exact h)

set_option maxRecDepth 100000 in
set_option maxHeartbeats 8000000 in
theorem fit_any (f : Fd) (hok : okF f = true) (o : Nat → Int) (ho : WfO o) (w : World) : Calls Tryd.prog 37 #[.agg (acells .i8 100 o), .agg (fcells f)] w fun e w' => e = .returned (.bool (ownFit f o)) ∧ Below w.heap.size w w' := by
  have hWs : inB f.W 1 10 = true := by simp only [okF, Bool.and_eq_true] at hok; exact hok.1.1
  have hHs : inB f.H 1 10 = true := by simp only [okF, Bool.and_eq_true] at hok; exact hok.1.2
  have HO := Lib.hid ho
  clear ho hok
  have hdep : Fence.wide.depth.isSome = false := rfl
  have hfn : ∀ k, Fence.wide.fn k := fun _ => trivial
  refine (callsIn_wide (n := 3)).1 ?_
  refine callsIn_of_wp_marks Tryd.func37 rfl trivial ?_ rfl
  simp only [Tryd.ntmps37, List.size_toArray, List.length_cons, List.length_nil, Nat.reduceAdd, Nat.reduceSub, Array.replicate_succ, Array.replicate_zero, List.push_toArray, List.append_toArray, List.nil_append, List.cons_append]
  gi_upto_region 1 with (fail)
  obtain ⟨W, hW, M⟩ := open3 w (acells .i8 100 o) 34 (fcells f) 32 #[.bool false] 4
  rw [hW]; clear hW
  have M2 := M.alloc Tryd.zeroCells34 34
  have hzH : Hid (Tryd.zeroCells34.size = 100) := Lib.hid (by rw [zeroO, acells_size])
  gi_upto_region 2 with (first
    | (refine loadIn hfn rfl 34 _ rfl w.heap.size 0 rfl (acells .i8 100 o) _ (M.at 0 rfl).whole Tryd.underlying34 rfl (by rw [acells_size]; exact sizeOw) ?_)
    | (refine storeIn hfn rfl 34 _ _ rfl W.heap.size 0 (acells .i8 100 o) rfl rfl ((M2.at 3 rfl).there 0 _ (by rw [acells_size, hzH.out]; omega)) (by rw [acells_size]; exact sizeOw) (acells_one _ _ _) ?_))
  have M3 : Mem w _ [⟨w.heap.size, acells .i8 100 o, 34⟩, ⟨w.heap.size + 1, fcells f, 32⟩, ⟨w.heap.size + 1 + 1, #[.bool false], 4⟩, ⟨W.heap.size, acells .i8 100 o, 34⟩] := M2.cells 3 0 (acells .i8 100 o).toList rfl (acells .i8 100 o) ((M2.at 3 rfl).over (acells .i8 100 o) (by rw [acells_size, hzH.out]))
  clear M2 M hzH
  generalize World.setCells _ _ _ _ = W3 at M3 ⊢
  obtain ⟨b5, hb5⟩ : ∃ b5, b5 = W.heap.size := ⟨_, rfl⟩
  rw [← hb5] at M3 ⊢
  clear hb5
  gi_wp2_with (first
    | (refine loadIn hfn rfl 32 _ rfl (w.heap.size + 1) 0 rfl (fcells f) _ (M3.at 1 rfl).whole Tryd.underlying32 rfl (by rw [fcells_size]; exact sizeFd) ?_)
    | (gi_at_call 49; refine (callsIn_wide.2 (cellsIn_any f _)).mono ?_; rintro e w' ⟨rfl, rfl⟩))
  obtain ⟨bi, hbi⟩ : ∃ bi, bi = W3.heap.size := ⟨_, rfl⟩
  have M4 : Mem w (W3.alloc (Obj.cells (fcells f) 32)) [⟨w.heap.size, acells .i8 100 o, 34⟩, ⟨w.heap.size + 1, fcells f, 32⟩, ⟨w.heap.size + 1 + 1, #[.bool false], 4⟩, ⟨b5, acells .i8 100 (outO (f := f) o []), 34⟩, ⟨bi, fcells f, 32⟩] := by rw [hbi]; exact M3.alloc (fcells f) 32
  generalize W3.alloc _ = W4 at M4 ⊢
  rw [← hbi]
  clear hbi M3
  have hsz : w.heap.size ≤ W4.heap.size := M4.below.size
  refine wpIn_rangeFunc_ownF rfl (by omega) (gf := 57) (lb := #[.pointer (some ⟨bi, 0, none⟩)]) rfl trivial (enters_of Tryd.func57 (by kernel_rfl) rfl)
    (cells_stops 2 bi f (inB_size hWs) (inB_size hHs) W4 (M4.at 4 rfl)) (fun h k => k.trans h)
    (fun W l o o' hl ho hc _ => World.putObj_heap_other (fun e => by
      have := (M4.at 4 rfl).lt
      omega))
    (Below.refl _ _) (fun _ => rfl)
    (fun pre W => Mem w W [⟨w.heap.size, acells .i8 100 o, 34⟩, ⟨w.heap.size + 1, fcells f, 32⟩, ⟨w.heap.size + 1 + 1, #[.bool false], 4⟩, ⟨b5, acells .i8 100 (outO o pre), 34⟩, ⟨bi, fcells f, 32⟩] ∧ ∀ c ∈ pre, inB (o c.1) 0 9 = true)
    (fun c _ W => c = Code.ret ∧ ownFit f o = false ∧ ∃ g, Mem w W [⟨w.heap.size, acells .i8 100 o, 34⟩, ⟨w.heap.size + 1, fcells f, 32⟩, ⟨w.heap.size + 1 + 1, #[.bool false], 4⟩, ⟨b5, acells .i8 100 g, 34⟩, ⟨bi, fcells f, 32⟩])
    (fun s A B row hs hg hr => ⟨hs.1.grown hsz hg hr, hs.2⟩)
    (fun c s A B row hs hg hr => ⟨hs.1, hs.2.1, hs.2.2.choose, hs.2.2.choose_spec.grown hsz hg hr⟩)
    ⟨M4, fun c hc => by cases hc⟩
    (fun x => { tmps := #[.agg (acells .i8 100 o), .agg (fcells f), .pointer (some ⟨w.heap.size, 0, none⟩), .pointer (some ⟨w.heap.size + 1, 0, none⟩), .pointer (some ⟨w.heap.size + 1 + 1, 0, none⟩), .pointer (some ⟨b5, 0, none⟩), .int .i64 (x.1 : Int), .agg (acells .i8 100 o), .agg (fcells f), .func (.func 57) #[] #[.pointer (some ⟨bi, 0, none⟩)], .int .i64 (x.1 : Int), undef, undef, undef, undef, undef, undef, undef, undef, undef, undef], defers := [] }) ?assign ?body ?done ?stop
  case assign =>
    intro l x W K hK
    gi_wp2
    exact hK
  case body =>
    rintro l pre x W5 ⟨M5, hall0⟩ _
    have hall := Lib.hid hall0
    clear hall0
    have hfn' : ∀ k, (Fence.wide.inRound l).fn k := fun _ => trivial
    have hdep' : (Fence.wide.inRound l).depth.isSome = false := rfl
    have hx := isCell_lt x.2
    have hx1 : (x.1 : Int) < 100 := by omega
    cases hsp : inB (o x.1) 0 9 with
    | false =>
      have hbad := Lib.hid (own_bad x.2 hsp)
      gi_upto_region 5 with (first
        | (refine loadIn hfn' rfl 34 _ rfl w.heap.size 0 rfl (acells .i8 100 o) _ (M5.at 0 rfl).whole Tryd.underlying34 rfl (by rw [acells_size]; exact sizeOw) ?_)
        | (gi_at_call 41; refine (CallsIn.inRound l (callsIn_wide.2 (of_any o HO.out x.1 hx _))).mono ?_; rintro e W6 ⟨rfl, hb6⟩; have M6 := M5.call hb6)
        | (gi_at_call 50; refine (CallsIn.inRound l (callsIn_wide.2 (isOwner_any _ _))).mono ?_; rintro e W7 ⟨rfl, rfl⟩; rw [hsp]))
      have d0 := (M6.at 2 rfl).cell (i := 0) (v := .bool false) rfl
      have e0 := (M6.at 2 rfl).free 0
      gi_wp2
      exact ⟨(KeepsOthers.of_below hb6).trans (KeepsOthers.setCell _ _ _), rfl, hbad.out, _, M6.set 2 0 (.bool false) rfl _ rfl⟩
    | true =>
      have hok := Lib.hid hsp
      gi_upto_region 6 with (first
        | (refine loadIn hfn' rfl 34 _ rfl w.heap.size 0 rfl (acells .i8 100 o) _ (M5.at 0 rfl).whole Tryd.underlying34 rfl (by rw [acells_size]; exact sizeOw) ?_)
        | (gi_at_call 41; refine (CallsIn.inRound l (callsIn_wide.2 (of_any o HO.out x.1 hx _))).mono ?_; rintro e W6 ⟨rfl, hb6⟩; have M6 := M5.call hb6)
        | (gi_at_call 50; refine (CallsIn.inRound l (callsIn_wide.2 (isOwner_any _ _))).mono ?_; rintro e W7 ⟨rfl, rfl⟩; rw [hsp]))
      have d0 := (M6.at 3 rfl).cell (acells_get _ _ _ x.1 hx)
      have e0 := (M6.at 3 rfl).free x.1
      gi_wp2
      have M8 := M6.set 3 x.1 (.int .i8 (-1)) rfl _ (acells_set _ _ _ _ _ hx)
      refine ⟨(KeepsOthers.of_below hb6).trans (KeepsOthers.setCell _ _ _), M5.same M8 4 4 rfl rfl, ?_, ?_⟩
      · rw [outO_snoc]; exact M8
      · intro c hc
        rcases List.mem_append.1 hc with hc | hc
        · exact hall.out c hc
        · have : c = x := by simpa using hc
          rw [this]; exact hok.out
  case done =>
    rintro D xs W6 hD rfl ⟨M6, hall0⟩ hK
    have hfin := Lib.hid (own_all hall0)
    clear hall0
    gi_wp2
    refine wpIn_wide.2 ?_
    refine wp_region_rel_tail 3 (DL [dV (.agg (acells .i8 100 (outO o (cellsTo f 100)))), dV (.agg (acells .i8 100 (fun _ => -1))), dV (.bool (rowEq 100 (outO o (cellsTo f 100)) (fun _ => -1)))]) (fun w' => Mem w w' [⟨w.heap.size, acells .i8 100 o, 34⟩, ⟨w.heap.size + 1, fcells f, 32⟩, ⟨w.heap.size + 1 + 1, #[.bool false], 4⟩, ⟨b5, acells .i8 100 (outO o (cellsTo f 100)), 34⟩, ⟨bi, fcells f, 32⟩] ∧ Below W6.heap.size W6 w') (by kernel_rfl) (by kernel_rfl) grows_memB
      (stays_DL (fun d hd => by
        simp only [List.mem_cons, List.mem_nil_iff, or_false] at hd
        rcases hd with rfl | rfl | rfl <;> exact stay_V)) ⟨M6.drew, (Below.refl _ _).drew⟩ ?_
    refine rel_load 34 _ rfl b5 0 rfl (acells .i8 100 (outO o (cellsTo f 100))) _ rfl rfl (fun w' hw' => (hw'.1.at 3 rfl).whole) Tryd.underlying34 rfl (by rw [acells_size]; exact sizeOw) (fun _ => ?_)
    simp only [Act.put, List.setIfInBounds_toArray, List.set_cons_zero, List.set_cons_succ]
    refine rel_call (.agg (acells .i8 100 (fun _ => -1))) 51 #[] rfl rfl rfl rfl (enters_of Tryd.func51 (by kernel_rfl) rfl) (fun w' _ => noOwners_any w') (fun _ => ?_)
    simp only [Act.put, List.setIfInBounds_toArray, List.set_cons_zero, List.set_cons_succ]
    refine rel_eql 34 _ _ _ rfl (acells .i8 100 (outO o (cellsTo f 100))) (acells .i8 100 (fun _ => -1)) rfl rfl (rowEq 100 (outO o (cellsTo f 100)) (fun _ => -1)) rfl rfl (by kernel_rfl) (fun w' => run_equalIn_own _ _ (outO_wf HO.out _) (fun i _ => by decide) w') (fun _ => ?_)
    simp only [Act.put, List.setIfInBounds_toArray, List.set_cons_zero, List.set_cons_succ]
    refine rel_nil (fun W7 inv => ?_)
    have M7 := inv.cls.1
    have hK7 := (inv.cls.2.block D (Array.getElem?_eq_some_iff.1 hK).1).trans hK
    clear inv
    change wpList _ _ _ (_ :: []) _ _
    have d0 := (M7.at 2 rfl).cell (i := 0) (v := .bool false) rfl
    have e0 := (M7.at 2 rfl).free 0
    rw [hfin.out]
    obtain ⟨v, hv⟩ : ∃ v, ownFit f o = v := ⟨_, rfl⟩
    rw [hv]
    have HV := Lib.hid hv
    clear hv
    go_wp2_with fail
    gi_wp2
    have M8 := M7.set 2 0 (.bool v) rfl #[.bool v] rfl
    have hK8 := (KeepsOthers.setCell W7 ⟨w.heap.size + 1 + 1, 0, none⟩ (.bool v)).same D _ hK7 rfl
    refine ⟨by simp, .inl ⟨_, _, rfl, run_takeDeferred hK8, ?_⟩⟩
    have M9 := M8.taken (o' := .deferred none) (Nat.le_trans hsz hD) hK8 rfl
    exact ⟨.bool v, by have := (M9.at 2 rfl).cell (i := 0) (v := .bool v) rfl; simp [results, Tryd.results37, go_sem, this], by rw [HV.out], M9.below⟩
  case stop =>
    rintro D c pre W5 hD _ ⟨rfl, hbad, g, M5⟩ hK
    have Hb := Lib.hid hbad
    clear hbad
    gi_wp2
    rw [Hb.out]
    refine ⟨by simp, .inl ⟨_, _, rfl, run_takeDeferred hK, ?_⟩⟩
    have M7 := M5.taken (o' := .deferred none) (Nat.le_trans hsz hD) hK rfl
    exact ⟨.bool false, by have := (M7.at 2 rfl).cell (i := 0) (v := .bool false) rfl; simp [results, Tryd.results37, go_sem, this], rfl, M7.below⟩
end Go.Proofs.YtgnfpmpjmliegaaDoor
