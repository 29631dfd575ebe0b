/-
  Fears that are valid for a field: the model's test, the program's.
-/
import Derived.Test.YtaioflkonpommaaDoorCoreA
import Derived.Test.YtaioflkonpommaaDoorCoreB
import Derived.Lib.Hide
import Derived.Outline
import Derived.OwnWalk
namespace Go.Proofs.YtaioflkonpommaaDoor
open Go Go.RowKit Go.Shelf
attribute [local go_sem] Oper.semAt_some

/-- Is what a number has as in valid fears of the field? -/
def fearOk (f : Fd) (g : Nat → Int) (i : Nat) : Bool := if isCell f i then inB (g i) 0 1000 else g i == 0
def okFears (f : Fd) (g : Nat → Int) : Bool := okF f && allTo 100 (fearOk f g)
/-- Each fear fits its kind. -/
def Wf16 (g : Nat → Int) : Prop := ∀ i, i < 100 → -32768 ≤ g i ∧ g i ≤ 32767

set_option maxRecDepth 100000 in
set_option maxHeartbeats 2000000 in
theorem l02Fears_any (f : Fd) (hf : f.Wf) (g : Nat → Int) (hg : Wf16 g) (b c : Nat) (w : World) (B : Blk w b (fcells f) 30) (G : Blk w c (acells .i16 100 g) 36) :
    Calls Tryd.prog 64 #[.pointer (some ⟨b, 0, none⟩), .pointer (some ⟨c, 0, none⟩)] w fun e w' => e = .returned (.bool (okFears f g)) ∧ w = w' := by
  unfold okFears
  cases hok : okF f with
  | false =>
    go_enter Tryd.func64, Tryd.ntmps64
    go_wp2_with (go_at_call 79; refine (l01Ok_any f hf b _ B).mono ?_; rintro e w' ⟨rfl, rfl⟩; rw [hok])
    go_ret
    exact ⟨rfl, rfl⟩
  | true =>
    go_enter Tryd.func64, Tryd.ntmps64
    go_wp2_with (go_at_call 79; refine (l01Ok_any f hf b _ B).mono ?_; rintro e w' ⟨rfl, rfl⟩; rw [hok])
    have HB := Lib.hid B
    have HG := Lib.hid G
    clear B G
    go_loop [5] (fun i => ∃ k : Nat, k ≤ 100 ∧ i = .int .i64 k ∧ Hid (∀ i, i < k → fearOk f g i = true)) (fun i => 100 - (intOf i).toNat)
    case atStart => exact ⟨0, by omega, rfl, Lib.hid (fun i hi => by omega)⟩
    case round =>
      obtain ⟨k, hk, rfl, hall⟩ := hrel
      by_cases hlt : k < 100
      · have cG := HG.out.cell (acells_get _ _ g k hlt)
        obtain ⟨hg1, hg2⟩ := hg k hlt
        cases q1 : isCell f k with
        | true =>
          cases q2 : inB (g k) 0 1000 with
          | true =>
            have hc : Hid (fearOk f g k = true) := Lib.hid (by simp [fearOk, q1, q2])
            go_wp2_with (first | (go_at_call 81; refine (l01Is_any f _ b _ hf.W hf.H HB.out).mono ?_; rintro e w' ⟨rfl, rfl⟩; rw [q1]) | (go_at_call 57; refine (l00In_any _ _ _ _).mono ?_; rintro e w' ⟨rfl, rfl⟩; rw [q2]))
            go_round
            case rel => exact ⟨k + 1, by omega, by go_num, Lib.hid (upto_succ hall.out hc.out)⟩
            case measure => simp [intOf]; omega
          | false =>
            have hc : Hid (allTo 100 (fearOk f g) = false) := Lib.hid (allTo_false hlt (by simp [fearOk, q1, q2]))
            go_wp2_with (first | (go_at_call 81; refine (l01Is_any f _ b _ hf.W hf.H HB.out).mono ?_; rintro e w' ⟨rfl, rfl⟩; rw [q1]) | (go_at_call 57; refine (l00In_any _ _ _ _).mono ?_; rintro e w' ⟨rfl, rfl⟩; rw [q2]))
            go_ret
            exact ⟨by rw [hc.out]; rfl, rfl⟩
        | false =>
          cases q2 : (g k != 0) with
          | false =>
            have hc : Hid (fearOk f g k = true) := Lib.hid (by simp [fearOk, q1]; simpa using q2)
            go_wp2_with (first | (go_at_call 81; refine (l01Is_any f _ b _ hf.W hf.H HB.out).mono ?_; rintro e w' ⟨rfl, rfl⟩; rw [q1]))
            go_round
            case rel => exact ⟨k + 1, by omega, by go_num, Lib.hid (upto_succ hall.out hc.out)⟩
            case measure => simp [intOf]; omega
          | true =>
            have hc : Hid (allTo 100 (fearOk f g) = false) := Lib.hid (allTo_false hlt (by simp [fearOk, q1]; simpa using q2))
            go_wp2_with (first | (go_at_call 81; refine (l01Is_any f _ b _ hf.W hf.H HB.out).mono ?_; rintro e w' ⟨rfl, rfl⟩; rw [q1]))
            go_ret
            exact ⟨by rw [hc.out]; rfl, rfl⟩
      · have hc : Hid (allTo 100 (fearOk f g) = true) := Lib.hid (allTo_iff.2 (fun i hi => hall.out i (by omega)))
        go_wp2_with fail
        go_ret
        exact ⟨by rw [hc.out]; rfl, rfl⟩

theorem zeroE : Tryd.zeroCells36 = acells .i16 100 (fun _ => 0) := by kernel_rfl
theorem zrunE (w : World) : (zeroValue 36).run Tryd.prog w = .ok (.agg Tryd.zeroCells36) w := zero_run (by kernel_rfl) w
theorem sizeE : (Tryd.prog.info? 36).map (·.size) = some 100 := by kernel_rfl
/-- A result that is a whole row. -/
theorem calmFears_any (w : World) : Calls Tryd.prog 70 #[] w fun e w' => e = .returned (.agg (acells .i16 100 (fun _ => 0))) ∧ Below w.heap.size w w' := by
  go_enter Tryd.func70, Tryd.ntmps70
  have M := (Mem.nil w).alloc Tryd.zeroCells36 36
  have hs : Tryd.zeroCells36.size = 100 := by rw [zeroE, acells_size]
  have M2 := M.row 0 rfl Tryd.zeroCells36
  go_wp2_with (refine wpList_store_row rfl 36 _ _ rfl w.heap.size Tryd.zeroCells36 rfl rfl 36 _ (M.at 0 rfl) (by rw [hs]; exact sizeE) rfl (by rw [zeroE]; exact acells_one _ _ _) ?_)
  exact bodyPost_ret (results_cell_row rfl _ _ w.heap.size 36 _ _ _ rfl (M2.at 0 rfl) Tryd.underlying36 rfl (by rw [hs]; exact sizeE)) rfl ⟨by rw [zeroE], M2.below⟩

/-- Two rows are equal, as a Bool. -/
def req (n : Nat) (f g : Nat → Int) : Bool := allTo n (fun i => f i == g i)
theorem req_iff {k : IntKind} {n : Nat} {f g : Nat → Int} : req n f g = true ↔ acells k n f = acells k n g := by
  simp only [req, allTo_iff, beq_iff_eq]
  exact ⟨fun h => acells_congr h, fun h i hi => acells_inj h i hi⟩
theorem run_equalIn_fears (f g : Nat → Int) (hf : Wf16 f) (hg : Wf16 g) (w : World) : (Op.equalIn 10000 36 (.agg (acells .i16 100 f)) (.agg (acells .i16 100 g))).run Tryd.prog w = .ok (req 100 f g) w := by
  have hk : Tryd.prog.keyTypeAt 5 36 = true := by kernel_rfl
  have fm : ∀ f, (Value.agg (acells .i16 100 f)).formed Tryd.prog 36 = true := fun f => by
    simp only [Value.formed, Tryd.underlying36, acells_size]; kernel_rfl
  obtain ⟨r, hr, hiff⟩ := run_equalIn_deep 9995 5 36 hk w _ _ (.agg (acells .i16 100 f)) (.agg (acells .i16 100 g)) _ _ (fm f) (fm g)
    (keyLits_ints 0 Tryd.underlying36 Tryd.underlying24 (by kernel_rfl) (by kernel_rfl) f (fun i hi => lit_i16 (hf i hi))) (keyLits_ints 0 Tryd.underlying36 Tryd.underlying24 (by kernel_rfl) (by kernel_rfl) g (fun i hi => lit_i16 (hg i hi)))
  have e : r = req 100 f g := by
    rw [Bool.eq_iff_iff, req_iff (k := .i16), hiff]
    constructor
    · intro h
      have h2 : (List.range 100).map (fun i => Value.int .i16 (f i)) = (List.range 100).map (fun i => Value.int .i16 (g i)) := by
        have := congrArg (List.map Lit.toCell) h
        simpa [List.map_map, Function.comp_def, Lit.toCell] using this
      exact congrArg List.toArray h2
    · intro h
      exact List.map_congr_left (fun i hi => by rw [acells_inj h i (List.mem_range.1 hi)])
  subst e
  exact hr

/-- The fears outside of some cells: those are struck. -/
def outF {f : Fd} (g : Nat → Int) (l : List (CellOf f)) : Nat → Int := l.foldl (fun g c => fun j => if j = c.1 then 0 else g j) g
theorem outF_snoc {f : Fd} (g : Nat → Int) (l : List (CellOf f)) (c : CellOf f) : outF g (l ++ [c]) = fun j => if j = c.1 then 0 else outF g l j := by simp [outF, List.foldl_append]
theorem outF_at {f : Fd} (g : Nat → Int) (n k : Nat) : outF g (cellsTo f n) k = if k < n ∧ isCell f k = true then 0 else g k := by
  induction n with
  | zero => simp [cellsTo, outF]
  | succ n ih =>
    by_cases h : isCell f n = true
    · rw [cellsTo_yes h, outF_snoc]
      simp only []
      by_cases e : k = n
      · subst e; simp [h]
      · have e1 : (k < n + 1 ∧ isCell f k = true) ↔ (k < n ∧ isCell f k = true) := by constructor <;> (rintro ⟨a, b⟩; exact ⟨by omega, b⟩)
        rw [if_neg e, ih]; simp only [e1]
    · have h' : isCell f n = false := by simpa using h
      rw [cellsTo_no h', ih]
      by_cases e : k = n
      · subst e; simp [h']
      · have e1 : (k < n + 1 ∧ isCell f k = true) ↔ (k < n ∧ isCell f k = true) := by constructor <;> (rintro ⟨a, b⟩; exact ⟨by omega, b⟩)
        simp only [e1]
theorem outF_wf {f : Fd} {g : Nat → Int} (hg : Wf16 g) (l : List (CellOf f)) : Wf16 (outF g l) := by
  suffices ∀ (l : List (CellOf f)) (g : Nat → Int), Wf16 g → Wf16 (l.foldl (fun g c => fun j => if j = c.1 then 0 else g j) g) from this l g hg
  intro l
  induction l with
  | nil => intro g hg; exact hg
  | cons c l ih =>
    intro g hg
    refine ih _ (fun i hi => ?_)
    by_cases e : i = c.1
    · simp only [if_pos e]; omega
    · simp only [if_neg e]; exact hg i hi
theorem fits_of_out {f : Fd} {g : Nat → Int} (hall : ∀ c ∈ cellsTo f 100, inB (g c.1) 0 1000 = true) : req 100 (outF g (cellsTo f 100)) (fun _ => 0) = allTo 100 (fearOk f g) := by
  unfold req
  refine allTo_congr (fun k hk => ?_)
  rw [outF_at g 100 k]
  unfold fearOk
  cases h : isCell f k with
  | true => rw [if_pos ⟨hk, rfl⟩, if_pos rfl, hall ⟨k, h⟩ (cellsTo_mem.2 hk)]; rfl
  | false => rw [if_neg (by simp), if_neg (by simp)]
theorem fits_bad {f : Fd} {g : Nat → Int} {k : Nat} (h : isCell f k = true) (hb : inB (g k) 0 1000 = false) : allTo 100 (fearOk f g) = false :=
  allTo_false (isCell_lt h) (by simp [fearOk, h, hb])

set_option maxRecDepth 100000 in
set_option maxHeartbeats 8000000 in
theorem fit_any (f : Fd) (hok : okF f = true) (g : Nat → Int) (hg : Wf16 g) (w : World) : Calls Tryd.prog 71 #[.agg (acells .i16 100 g), .agg (fcells f)] w fun e w' => e = .returned (.bool (allTo 100 (fearOk f g))) ∧ Below w.heap.size w w' := by
  have hWs : inB f.W 1 10 = true := by simp only [okF, Bool.and_eq_true] at hok; exact hok.1.1
  have hHs : inB f.H 1 10 = true := by simp only [okF, Bool.and_eq_true] at hok; exact hok.1.2
  have hdep : Fence.wide.depth.isSome = false := rfl
  have hfn : ∀ k, Fence.wide.fn k := fun _ => trivial
  refine (callsIn_wide (n := 3)).1 ?_
  refine callsIn_of_wp_marks Tryd.func71 rfl trivial ?_ rfl
  simp only [Tryd.ntmps71, List.size_toArray, List.length_cons, List.length_nil, Nat.reduceAdd, Nat.reduceSub, Array.replicate_succ, Array.replicate_zero, List.push_toArray, List.append_toArray, List.nil_append, List.cons_append]
  gi_upto_region 1 with (fail)
  obtain ⟨W, hW, M⟩ := open3 w (acells .i16 100 g) 36 (fcells f) 30 #[.bool false] 4
  rw [hW]; clear hW
  have M2 := M.alloc Tryd.zeroCells36 36
  have hzH : Hid (Tryd.zeroCells36.size = 100) := Lib.hid (by rw [zeroE, acells_size])
  gi_upto_region 2 with (first
    | (refine loadIn hfn rfl 36 _ rfl w.heap.size 0 rfl (acells .i16 100 g) _ (M.at 0 rfl).whole Tryd.underlying36 rfl (by rw [acells_size]; exact sizeE) ?_)
    | (refine storeIn hfn rfl 36 _ _ rfl W.heap.size 0 (acells .i16 100 g) rfl rfl ((M2.at 3 rfl).there 0 _ (by rw [acells_size, hzH.out]; omega)) (by rw [acells_size]; exact sizeE) (acells_one _ _ _) ?_))
  have M3 : Mem w _ [⟨w.heap.size, acells .i16 100 g, 36⟩, ⟨w.heap.size + 1, fcells f, 30⟩, ⟨w.heap.size + 1 + 1, #[.bool false], 4⟩, ⟨W.heap.size, acells .i16 100 g, 36⟩] := M2.cells 3 0 (acells .i16 100 g).toList rfl (acells .i16 100 g) ((M2.at 3 rfl).over (acells .i16 100 g) (by rw [acells_size, hzH.out]))
  clear M2 M hzH
  generalize World.setCells _ _ _ _ = W3 at M3 ⊢
  obtain ⟨b3, hb3⟩ : ∃ b3, b3 = W.heap.size := ⟨_, rfl⟩
  rw [← hb3] at M3 ⊢
  clear hb3
  gi_wp2_with (first
    | (refine loadIn hfn rfl 30 _ rfl (w.heap.size + 1) 0 rfl (fcells f) _ (M3.at 1 rfl).whole Tryd.underlying30 rfl (by rw [fcells_size]; exact sizeFd) ?_)
    | (gi_at_call 87; refine (callsIn_wide.2 (cellsIn_any f _)).mono ?_; rintro e w' ⟨rfl, rfl⟩))
  obtain ⟨bi, hbi⟩ : ∃ bi, bi = W3.heap.size := ⟨_, rfl⟩
  have M4 : Mem w (W3.alloc (Obj.cells (fcells f) 30)) [⟨w.heap.size, acells .i16 100 g, 36⟩, ⟨w.heap.size + 1, fcells f, 30⟩, ⟨w.heap.size + 1 + 1, #[.bool false], 4⟩, ⟨b3, acells .i16 100 (g), 36⟩, ⟨bi, fcells f, 30⟩] := by rw [hbi]; exact M3.alloc (fcells f) 30
  generalize W3.alloc _ = W4 at M4 ⊢
  rw [← hbi]
  clear hbi M3
  have hsz : w.heap.size ≤ W4.heap.size := M4.below.size
  refine wpIn_rangeFunc_ownF rfl (by omega) (gf := 103) (lb := #[.pointer (some ⟨bi, 0, none⟩)]) rfl trivial (enters_of Tryd.func103 (by kernel_rfl) rfl)
    (cells_stops 2 bi f (inB_size hWs) (inB_size hHs) W4 (M4.at 4 rfl)) (fun h k => k.trans h)
    (fun W l o o' hl ho hc _ => World.putObj_heap_other (fun e => by
      have := (M4.at 4 rfl).lt
      omega))
    (Below.refl _ _) (fun _ => rfl)
    (fun pre W => Mem w W [⟨w.heap.size, acells .i16 100 g, 36⟩, ⟨w.heap.size + 1, fcells f, 30⟩, ⟨w.heap.size + 1 + 1, #[.bool false], 4⟩, ⟨b3, acells .i16 100 (outF g pre), 36⟩, ⟨bi, fcells f, 30⟩] ∧ ∀ c ∈ pre, inB (g c.1) 0 1000 = true)
    (fun c _ W => c = Code.ret ∧ allTo 100 (fearOk f g) = false ∧ ∃ o, Mem w W [⟨w.heap.size, acells .i16 100 g, 36⟩, ⟨w.heap.size + 1, fcells f, 30⟩, ⟨w.heap.size + 1 + 1, #[.bool false], 4⟩, ⟨b3, acells .i16 100 (o), 36⟩, ⟨bi, fcells f, 30⟩])
    (fun s A B row hs hg hr => ⟨hs.1.grown hsz hg hr, hs.2⟩)
    (fun c s A B row hs hg hr => ⟨hs.1, hs.2.1, hs.2.2.choose, hs.2.2.choose_spec.grown hsz hg hr⟩)
    ⟨M4, fun c hc => by cases hc⟩
    (fun x => { tmps := #[.agg (acells .i16 100 g), .agg (fcells f), .pointer (some ⟨w.heap.size, 0, none⟩), .pointer (some ⟨w.heap.size + 1, 0, none⟩), .pointer (some ⟨w.heap.size + 1 + 1, 0, none⟩), .pointer (some ⟨b3, 0, none⟩), .int .i64 (x.1 : Int), .agg (acells .i16 100 g), .agg (fcells f), .func (.func 103) #[] #[.pointer (some ⟨bi, 0, none⟩)], .int .i64 (x.1 : Int), undef, undef, undef, undef, undef, undef, undef, undef, undef, undef, undef, undef, undef, undef, undef], defers := [] }) ?assign ?body ?done ?stop
  case assign =>
    intro l x W K hK
    gi_wp2
    exact hK
  case body =>
    rintro l pre x W5 ⟨M5, hall0⟩ _
    have hall : Hid (∀ c ∈ pre, inB (g c.1) 0 1000 = true) := hall0
    clear hall0
    have hfn' : ∀ k, (Fence.wide.inRound l).fn k := fun _ => trivial
    have hdep' : (Fence.wide.inRound l).depth.isSome = false := rfl
    have hx := isCell_lt x.2
    have hx1 : (x.1 : Int) < 100 := by omega
    obtain ⟨hg1, hg2⟩ := hg x.1 hx
    have cG := (M5.at 0 rfl).cell (acells_get _ _ g x.1 hx)
    cases hsp : inB (g x.1) 0 1000 with
    | false =>
      have hbad : Hid (allTo 100 (fearOk f g) = false) := Lib.hid (fits_bad x.2 hsp)
      have d0 := (M5.at 2 rfl).cell (i := 0) (v := .bool false) rfl
      have e0 := (M5.at 2 rfl).free 0
      by_cases hlow : g x.1 < 0
      · gi_wp2
        exact ⟨KeepsOthers.setCell _ _ _, rfl, hbad.out, _, M5.set 2 0 (.bool false) rfl _ rfl⟩
      · have hhi : 1000 < g x.1 := by
          by_cases h : g x.1 ≤ 1000
          · rw [inB_iff.2 ⟨by omega, h⟩] at hsp; cases hsp
          · omega
        have hlow' : 0 ≤ g x.1 := by omega
        clear hlow
        gi_wp2
        exact ⟨KeepsOthers.setCell _ _ _, rfl, hbad.out, _, M5.set 2 0 (.bool false) rfl _ rfl⟩
    | true =>
      have hk : Hid (inB (g x.1) 0 1000 = true) := Lib.hid hsp
      obtain ⟨hl0, hl1⟩ := inB_iff.1 hsp
      clear hsp
      have d0 := (M5.at 3 rfl).cell (acells_get _ _ (outF g pre) x.1 hx)
      have e0 := (M5.at 3 rfl).free x.1
      gi_wp2
      have M8 := M5.set 3 x.1 (.int .i16 0) rfl _ (acells_set .i16 100 (outF g pre) x.1 0 hx)
      refine ⟨KeepsOthers.setCell _ _ _, M5.same M8 4 4 rfl rfl, ?_, ?_⟩
      · rw [outF_snoc]; exact M8
      · intro c hc
        rcases List.mem_append.1 hc with hc | hc
        · exact hall.out c hc
        · have : c = x := by simpa using hc
          rw [this]; exact hk.out
  case done =>
    rintro D xs W5 hD rfl ⟨M5, hall0⟩ hK
    have hfin : Hid (req 100 (outF g (cellsTo f 100)) (fun _ => 0) = allTo 100 (fearOk f g)) := Lib.hid (fits_of_out hall0)
    clear hall0
    have gW : Wf16 (outF g (cellsTo f 100)) := outF_wf hg _
    have gB : Wf16 (fun _ => 0) := fun _ _ => ⟨by show (-32768 : Int) ≤ 0; decide, by show (0 : Int) ≤ 32767; decide⟩
    gi_upto_region 7 with (fail)
    refine wpIn_wide.2 ?_
    refine wp_region_rel_tail 3 (DL [dV (.agg (acells .i16 100 (outF g (cellsTo f 100)))), dV (.agg (acells .i16 100 (fun _ => 0))), dV (.bool (allTo 100 (fearOk f g)))]) (fun w' => Mem w w' [⟨w.heap.size, acells .i16 100 g, 36⟩, ⟨w.heap.size + 1, fcells f, 30⟩, ⟨w.heap.size + 1 + 1, #[.bool false], 4⟩, ⟨b3, acells .i16 100 (outF g (cellsTo f 100)), 36⟩, ⟨bi, fcells f, 30⟩] ∧ Below W5.heap.size W5 w') (by kernel_rfl) (by kernel_rfl) grows_memB
      (stays_DL (fun d hd => by
        simp only [List.mem_cons, List.mem_nil_iff, or_false] at hd
        rcases hd with rfl | rfl | rfl <;> exact stay_V)) ⟨M5.drew, (Below.refl _ _).drew⟩ ?_
    refine rel_load 36 _ rfl b3 0 rfl (acells .i16 100 (outF g (cellsTo f 100))) _ rfl rfl (fun w' hw' => (hw'.1.at 3 rfl).whole) Tryd.underlying36 rfl (by rw [acells_size]; exact sizeE) (fun x0 => ?_)
    refine rel_call _ 70 #[] rfl rfl rfl rfl (enters_of Tryd.func70 (by kernel_rfl) rfl) (fun w' _ => calmFears_any w') (fun x1 => ?_)
    refine rel_eql 36 _ _ _ rfl (acells .i16 100 (outF g (cellsTo f 100))) (acells .i16 100 (fun _ => 0)) rfl rfl _ rfl rfl (by kernel_rfl) (fun w' => by rw [← hfin.out]; exact run_equalIn_fears _ _ gW gB w') (fun x2 => ?_)
    refine rel_nil (fun w' inv => ?_)
    have M6 := inv.cls.1
    have d0 := (M6.at 2 rfl).cell (i := 0) (v := .bool false) rfl
    have e0 := (M6.at 2 rfl).free 0
    go_wp2_with fail
    gi_wp2
    have hK6 : w'.heap[D]? = some (.deferred (some [])) := by rw [inv.cls.2.block D (Array.getElem?_eq_some_iff.1 hK).1]; exact hK
    have M7 := M6.set 2 0 (.bool (allTo 100 (fearOk f g))) rfl _ rfl
    refine ⟨by simp, .inl ⟨_, _, rfl, run_takeDeferred ((KeepsOthers.setCell w' ⟨w.heap.size + 1 + 1, 0, none⟩ _).same D _ hK6 rfl), ?_⟩⟩
    have M8 := M7.taken (o' := .deferred none) (Nat.le_trans hsz hD) ((KeepsOthers.setCell w' ⟨w.heap.size + 1 + 1, 0, none⟩ _).same D _ hK6 rfl) rfl
    exact ⟨.bool (allTo 100 (fearOk f g)), by have := (M8.at 2 rfl).cell (i := 0) (v := .bool (allTo 100 (fearOk f g))) rfl; simp [results, Tryd.results71, go_sem, this], rfl, M8.below⟩
  case stop =>
    rintro D c pre W5 hD _ ⟨rfl, hbad, o, M5⟩ hK
    have Hb : Hid (allTo 100 (fearOk f g) = false) := hbad
    clear hbad
    gi_wp2
    rw [Hb.out]
    refine ⟨by simp, .inl ⟨_, _, rfl, run_takeDeferred hK, ?_⟩⟩
    have M7 := M5.taken (o' := .deferred none) (Nat.le_trans hsz hD) hK rfl
    exact ⟨.bool false, by have := (M7.at 2 rfl).cell (i := 0) (v := .bool false) rfl; simp [results, Tryd.results71, go_sem, this], rfl, M7.below⟩
end Go.Proofs.YtaioflkonpommaaDoor
