/-
  FearMap: the model's and the program's.
-/
import Derived.Test.YtpplakfmdjajiaaDoorSafeC
namespace Go.Proofs.YtpplakfmdjajiaaDoor
open Go Go.RowKit Go.Shelf
attribute [local go_sem] Oper.semAt_some

/-- The fears of the cells below p. -/
def fmTo (f : Fd) (F : Nat → Nat → Int) (n : Nat) : Nat → Nat → Int
  | 0 => fun _ => 0
  | p + 1 => if isCell f p = true then (fun j => if j = p then fearTo F p n else fmTo f F n p j) else fmTo f F n p
theorem fmTo_yes {f : Fd} {F : Nat → Nat → Int} {n p : Nat} (h : isCell f p = true) : fmTo f F n (p + 1) = fun j => if j = p then fearTo F p n else fmTo f F n p j := by rw [fmTo, if_pos h]
theorem fmTo_no {f : Fd} {F : Nat → Nat → Int} {n p : Nat} (h : isCell f p = false) : fmTo f F n (p + 1) = fmTo f F n p := by rw [fmTo, h]; rfl
def fearRow (f : Fd) (n : Nat) (F : Nat → Nat → Int) : Nat → Int := if okScares f n F then fmTo f F n 100 else fun _ => 0
theorem fearRow_yes {f : Fd} {n : Nat} {F : Nat → Nat → Int} (h : okScares f n F = true) : fearRow f n F = fmTo f F n 100 := by unfold fearRow; rw [h]; rfl
theorem fearRow_no {f : Fd} {n : Nat} {F : Nat → Nat → Int} (h : okScares f n F = false) : fearRow f n F = fun _ => 0 := by unfold fearRow; rw [h]; rfl
/-- The fears of some cells. -/
def fmL {f : Fd} (F : Nat → Nat → Int) (n : Nat) (l : List (CellOf f)) : Nat → Int := l.foldl (fun g c => fun j => if j = c.1 then fearTo F c.1 n else g j) (fun _ => 0)
theorem fmL_snoc {f : Fd} (F : Nat → Nat → Int) (n : Nat) (l : List (CellOf f)) (c : CellOf f) : fmL F n (l ++ [c]) = fun j => if j = c.1 then fearTo F c.1 n else fmL F n l j := by simp only [fmL, List.foldl_append, List.foldl_cons, List.foldl_nil]
theorem fmL_to (f : Fd) (F : Nat → Nat → Int) (n : Nat) : ∀ p, fmL F n (cellsTo f p) = fmTo f F n p
  | 0 => rfl
  | p + 1 => by
    have ih := fmL_to f F n p
    cases h : isCell f p with
    | true => rw [cellsTo_yes h, fmL_snoc, ih, fmTo_yes h]
    | false => rw [cellsTo_no h, ih, fmTo_no h]
set_option maxRecDepth 100000 in
set_option maxHeartbeats 8000000 in
theorem specFearMap (f : Fd) (hf : f.Wf) (n : Nat) (hn : n ≤ 2 ^ 40) (F : Nat → Nat → Int) (hF : WfS ksScarecrow n F) (d cap : Nat) (w : World) (I : InS w d 0 n ksScarecrow F) :
    Calls Tryd.prog 13 #[.agg (fcells f), .slice (some ⟨d, 0, none⟩) n cap] w fun e w' => e = .returned (.tuple #[.agg (acells .i16 100 (fearRow f n F)), .int .i64 (askCode f n F true)]) ∧ Below w.heap.size w w' := by
  have HI := Lib.hid I
  clear I
  have hz : Hid (Tryd.zeroCells25.size = 100) := Lib.hid (by rw [zeroS, acells_size])
  have hz1 : Hid (Tryd.zeroCells25.all (·.oneCell') = true) := Lib.hid (by rw [zeroS]; exact acells_one _ _ _)
  cases hs : okScares f n F with
  | false =>
  have hc : Hid (askCode f n F true = 1) := Lib.hid (ask_no hs)
  have hr : Hid (fearRow f n F = fun _ => 0) := Lib.hid (fearRow_no hs)
  clear hs
  go_enter Tryd.func13, Tryd.ntmps13
  go_upto_region 1 with (fail)
  obtain ⟨W, hW, M⟩ := open2 w (fcells f) 32 Tryd.zeroCells25 25
  (try rw [hW]); clear hW
  go_upto_region 2 with (refine wpList_store_row rfl 25 _ _ rfl W.heap.size Tryd.zeroCells25 rfl rfl 25 _ ((M.alloc Tryd.zeroCells25 25).at 2 rfl) (by rw [hz.out]; exact sizeS) rfl hz1.out ?_)
  have M2 := (M.alloc Tryd.zeroCells25 25).row 2 rfl Tryd.zeroCells25
  obtain ⟨ob, hob⟩ : ∃ ob, ob = W.heap.size := ⟨_, rfl⟩
  rw [← hob] at M2 ⊢
  generalize World.setRow _ _ _ = W2 at M2 ⊢
  clear M hob
  have M2' : Mem w W2 [⟨w.heap.size, fcells f, 32⟩, ⟨w.heap.size + 1, acells .i16 100 (fun _ => 0), 25⟩, ⟨ob, acells .i16 100 (fun _ => 0), 25⟩] := by rw [zeroS] at M2; exact M2
  clear M2
  go_wp2_with (first
    | (go_at_call 42; refine (l03Asked_any f hf n hn F hF true w.heap.size d cap _ (M2'.at 0 rfl) (HI.out.later M2'.below)).mono ?_; rintro e W3 ⟨rfl, hb⟩; rw [hc.out]; have M3 := M2'.call hb; clear M2' hb)
    | (refine wpList_load_part rfl 25 _ rfl ob 0 rfl (acells .i16 100 (fun _ => 0)) _ (M3.at 2 rfl).whole Tryd.underlying25 rfl (by rw [acells_size]; exact sizeS) ?_)
    | (refine wpList_store_row rfl 25 _ _ rfl (w.heap.size + 1) (acells .i16 100 (fun _ => 0)) rfl rfl 25 _ (M3.at 1 rfl) (by rw [acells_size]; exact sizeS) (by simp only [acells_size]) (acells_one _ _ _) ?_))
  have M10 := M3.row 1 rfl (acells .i16 100 (fun _ => 0))
  exact bodyPost_ret (results_row_tmp rfl _ _ (w.heap.size + 1) 25 _ _ _ rfl (M10.at 1 rfl) Tryd.underlying25 rfl (by rw [acells_size]; exact sizeS)) rfl ⟨by rw [hr.out, hc.out]; rfl, M10.below⟩
  | true =>
  have hc : Hid (askCode f n F true = 0) := Lib.hid (ask_ok hs rfl)
  have hr : Hid (fearRow f n F = fmTo f F n 100) := Lib.hid (fearRow_yes hs)
  have HF := Lib.hid (fun i (hi : i < n) => wfT_row hF hi)
  have HS := Lib.hid (okS_field hs).2.1
  clear hs
  go_enter Tryd.func13, Tryd.ntmps13
  go_upto_region 1 with (fail)
  obtain ⟨W, hW, M⟩ := open2 w (fcells f) 32 Tryd.zeroCells25 25
  (try rw [hW]); clear hW
  go_upto_region 2 with (refine wpList_store_row rfl 25 _ _ rfl W.heap.size Tryd.zeroCells25 rfl rfl 25 _ ((M.alloc Tryd.zeroCells25 25).at 2 rfl) (by rw [hz.out]; exact sizeS) rfl hz1.out ?_)
  have M2 := (M.alloc Tryd.zeroCells25 25).row 2 rfl Tryd.zeroCells25
  obtain ⟨ob, hob⟩ : ∃ ob, ob = W.heap.size := ⟨_, rfl⟩
  rw [← hob] at M2 ⊢
  generalize World.setRow _ _ _ = W2 at M2 ⊢
  clear M hob
  have M2' : Mem w W2 [⟨w.heap.size, fcells f, 32⟩, ⟨w.heap.size + 1, acells .i16 100 (fun _ => 0), 25⟩, ⟨ob, acells .i16 100 (fun _ => 0), 25⟩] := by rw [zeroS] at M2; exact M2
  clear M2
  go_wp2_with (go_at_call 42; refine (l03Asked_any f hf n hn F hF true w.heap.size d cap _ (M2'.at 0 rfl) (HI.out.later M2'.below)).mono ?_; rintro e W3 ⟨rfl, hb⟩; rw [hc.out]; have M3 := M2'.call hb; clear M2' hb)
  have M0 : Hid (Mem w W3 [⟨w.heap.size, fcells f, 32⟩, ⟨w.heap.size + 1, acells .i16 100 (fun _ => 0), 25⟩, ⟨ob, acells .i16 100 (fmTo f F n 0), 25⟩]) := Lib.hid M3
  clear M3
  go_loopw [8] (fun i wr => ∃ k : Nat, k ≤ 100 ∧ i = .int .i64 k ∧ Hid (Mem w wr [⟨w.heap.size, fcells f, 32⟩, ⟨w.heap.size + 1, acells .i16 100 (fun _ => 0), 25⟩, ⟨ob, acells .i16 100 (fmTo f F n k), 25⟩])) (fun i _ => 100 - (intOf i).toNat)
  case atStart => exact ⟨0, by omega, rfl, M0⟩
  case round =>
    clear M0
    obtain ⟨k, hk', rfl, hM⟩ := hrel
    by_cases hlt : k < 100
    · have hk1 : (k : Int) < 100 := by omega
      cases hq : isCell f (k : Int) with
      | false =>
        have hno : Hid (fmTo f F n (k + 1) = fmTo f F n k) := Lib.hid (fmTo_no hq)
        go_wp2_with (go_at_call 43; refine (l01Is_any f _ w.heap.size _ hf.W hf.H (hM.out.at 0 rfl)).mono ?_; rintro e w1 ⟨rfl, rfl⟩; rw [hq])
        go_roundw
        case rel => exact ⟨k + 1, by omega, by go_num, by rw [hno.out]; exact hM⟩
        case measure => simp [intOf]; omega
      | true =>
        have hin : 0 ≤ (k : Int) ∧ (k : Int) ≤ 99 := ⟨by omega, by omega⟩
        obtain ⟨v1, v2⟩ := fearTo_in (c := (k : Int)) hin (n := n) HS.out
        obtain ⟨v, hv⟩ : ∃ v, fearTo F (k : Int) n = v := ⟨_, rfl⟩
        rw [hv] at v1 v2
        have HV := Lib.hid hv
        have hset : Hid ((acells .i16 100 (fmTo f F n k)).setIfInBounds k (.int .i16 v) = acells .i16 100 (fmTo f F n (k + 1))) := Lib.hid (by rw [acells_set _ _ _ _ _ hlt, fmTo_yes hq, hv])
        have hw16 : IntKind.i16.wrap v = v := IntWalk.i16_in _ (by omega)
        clear hv
        go_wp2_with (first
          | (go_at_call 43; refine (l01Is_any f _ w.heap.size _ hf.W hf.H (hM.out.at 0 rfl)).mono ?_; rintro e w1 ⟨rfl, rfl⟩; rw [hq])
          | (go_at_call 44; refine (l03Fear_any n hn F HF.out HS.out (k : Int) hin d cap _ (HI.out.later hM.out.below)).mono ?_; rintro e W4 ⟨rfl, hb⟩; rw [HV.out]; have M4 := Lib.hid (hM.out.call hb); have c4 := (M4.out.at 2 rfl).cell (acells_get _ _ _ k hlt); have e4 := (M4.out.at 2 rfl).free k; clear hM hb))
        have M5 := Lib.hid (M4.out.set 2 k (.int .i16 v) rfl _ hset.out)
        go_roundw
        case rel => exact ⟨k + 1, by omega, by go_num, M5⟩
        case measure => simp [intOf]; omega
    · obtain rfl : k = 100 := by omega
      go_wp2_with (first
        | (refine wpList_load_part rfl 25 _ rfl ob 0 rfl (acells .i16 100 (fmTo f F n 100)) _ (hM.out.at 2 rfl).whole Tryd.underlying25 rfl (by rw [acells_size]; exact sizeS) ?_)
        | (refine wpList_store_row rfl 25 _ _ rfl (w.heap.size + 1) (acells .i16 100 (fmTo f F n 100)) rfl rfl 25 _ (hM.out.at 1 rfl) (by rw [acells_size]; exact sizeS) (by simp only [acells_size]) (acells_one _ _ _) ?_))
      have M10 := hM.out.row 1 rfl (acells .i16 100 (fmTo f F n 100))
      exact bodyPost_ret (results_row_tmp rfl _ _ (w.heap.size + 1) 25 _ _ _ rfl (M10.at 1 rfl) Tryd.underlying25 rfl (by rw [acells_size]; exact sizeS)) rfl ⟨by rw [hr.out, hc.out]; rfl, M10.below⟩
set_option maxRecDepth 100000 in
set_option maxHeartbeats 4000000 in
theorem fearMap_bad (f : Fd) (hf : f.Wf) (n : Nat) (hn : n ≤ 2 ^ 40) (F : Nat → Nat → Int) (hF : WfS ksScarecrow n F) (d cap : Nat) (hcap : n ≤ cap) (A : Nat → Addr) (w : World) (I : InS w d 0 n ksScarecrow F) (S0 : Sents w A) (hs : okScares f n F = false) :
    Calls Tryd.prog 16 #[.agg (fcells f), .slice (some ⟨d, 0, none⟩) n cap] w fun e w' => e = .returned (.tuple #[.agg (acells .i16 100 (fearRow f n F)), .int .i64 (askCode f n F true)]) ∧ Below w.heap.size w w' := by
  have HI := Lib.hid I
  have S : Hid (Sents w A) := Lib.hid S0
  clear I S0
  have hif := isIfaceErr
  have hz : Hid (Tryd.zeroCells25.size = 100) := Lib.hid (by rw [zeroS, acells_size])
  have hz1 : Hid (Tryd.zeroCells25.all (·.oneCell') = true) := Lib.hid (by rw [zeroS]; exact acells_one _ _ _)
  have hc : Hid (askErr A (askCode f n F (allTo 0 (fun _ => isCell f 0))) = errVal (A 1)) := Lib.hid (by rw [ask_no hs]; rfl)
  have hc1 : Hid (askCode f n F true = 1) := Lib.hid (ask_no hs)
  have hr : Hid (acells .i16 100 (fearRow f n F) = Tryd.zeroCells25) := Lib.hid (by rw [fearRow_no hs, zeroS])
  clear hs
  go_enter Tryd.func16, Tryd.ntmps16
  go_upto_region 1 with (fail)
  obtain ⟨W, hW, M⟩ := open2 w (fcells f) 32 Tryd.zeroCells25 25
  (try rw [hW]); clear hW
  go_wp2_with (first
    | (refine wpList_load_part rfl 32 _ rfl w.heap.size 0 rfl (fcells f) _ (M.at 0 rfl).whole Tryd.underlying32 rfl (by rw [fcells_size]; exact sizeFd) ?_)
    | (go_at_call 48; refine (checkScares_any f hf n hn F hF d cap hcap 0 (by omega) (fun _ => 0) (fun _ h => absurd h (by omega)) none 0 A _ (HI.out.later M.below) (.inl rfl) (S.out.later M.below)).mono ?_; rintro e W2 ⟨rfl, hb⟩; rw [hc.out]; have M2 := M.call hb; clear M hb)
    | (go_at_call 49; refine (codeOf_err A 1 (by omega) (by omega) _ (S.out.later M2.below)).mono ?_; rintro e W3 ⟨rfl, rfl⟩)
    | (refine wpList_store_row rfl 25 _ _ rfl (w.heap.size + 1) Tryd.zeroCells25 rfl rfl 25 _ (M2.at 1 rfl) (by rw [hz.out]; exact sizeS) rfl hz1.out ?_))
  have M4 := M2.row 1 rfl Tryd.zeroCells25
  exact bodyPost_ret (results_row_tmp rfl _ _ (w.heap.size + 1) 25 _ _ _ rfl (M4.at 1 rfl) Tryd.underlying25 rfl (by rw [hz.out]; exact sizeS)) rfl ⟨by rw [hr.out, hc1.out]; rfl, M4.below⟩
attribute [local go_sem] run_store_fn in
set_option maxRecDepth 100000 in
set_option maxHeartbeats 8000000 in
theorem fearMap_ok (f : Fd) (hf : f.Wf) (n : Nat) (hn : n ≤ 2 ^ 40) (F : Nat → Nat → Int) (hF : WfS ksScarecrow n F) (d cap : Nat) (hcap : n ≤ cap) (A : Nat → Addr) (w : World) (I : InS w d 0 n ksScarecrow F) (S0 : Sents w A) (hs : okScares f n F = true) :
    Calls Tryd.prog 16 #[.agg (fcells f), .slice (some ⟨d, 0, none⟩) n cap] w fun e w' => e = .returned (.tuple #[.agg (acells .i16 100 (fearRow f n F)), .int .i64 (askCode f n F true)]) ∧ Below w.heap.size w w' := by
  have HI := Lib.hid I
  have S : Hid (Sents w A) := Lib.hid S0
  clear I S0
  have hif := isIfaceErr
  have hc : Hid (askErr A (askCode f n F (allTo 0 (fun _ => isCell f 0))) = .nilIface) := Lib.hid (by rw [ask_ok (fine := allTo 0 (fun _ => isCell f 0)) hs rfl]; rfl)
  have hc1 : Hid (askCode f n F true = 0) := Lib.hid (ask_ok hs rfl)
  have hr : Hid (fearRow f n F = fmTo f F n 100) := Lib.hid (fearRow_yes hs)
  have HF := Lib.hid (fun i (hi : i < n) => wfT_row hF hi)
  have HS := Lib.hid (okS_field hs).2.1
  have hok := (okS_field hs).1
  have hWs : Hid (inB f.W 1 10 = true) := Lib.hid (by simp only [okF, Bool.and_eq_true] at hok; exact hok.1.1)
  have hHs : Hid (inB f.H 1 10 = true) := Lib.hid (by simp only [okF, Bool.and_eq_true] at hok; exact hok.1.2)
  clear hs hok
  have hdep : Fence.wide.depth.isSome = false := rfl
  have hfn : ∀ k, Fence.wide.fn k := fun _ => trivial
  refine (callsIn_wide (n := 3)).1 ?_
  refine callsIn_of_wp_marks Tryd.func16 rfl trivial ?_ rfl
  simp only [Tryd.ntmps16, List.size_toArray, List.length_cons, List.length_nil, Nat.reduceAdd, Nat.reduceSub, Array.replicate_succ, Array.replicate_zero, List.push_toArray, List.append_toArray, List.nil_append, List.cons_append]
  gi_upto_region 1 with (fail)
  rw [zeroS]
  obtain ⟨W, hW, M⟩ := open2 w (fcells f) 32 (acells .i16 100 (fun _ => 0)) 25
  rw [hW]; clear hW
  gi_upto_region 6 with (first
    | (refine loadIn hfn rfl 32 _ rfl w.heap.size 0 rfl (fcells f) _ (M.at 0 rfl).whole Tryd.underlying32 rfl (by rw [fcells_size]; exact sizeFd) ?_)
    | (gi_at_call 48; refine (callsIn_wide.2 (checkScares_any f hf n hn F hF d cap hcap 0 (by omega) (fun _ => 0) (fun _ h => absurd h (by omega)) none 0 A _ (HI.out.later M.below) (.inl rfl) (S.out.later M.below))).mono ?_; rintro e W2 ⟨rfl, hb⟩; rw [hc.out]; have M2 := M.call hb; clear M hb)
    | (gi_at_call 50; refine (callsIn_wide.2 (fearFrom_any n cap d _)).mono ?_; rintro e W3 ⟨rfl, rfl⟩))
  (try rw [zeroS])
  have M3 := ((M2.alloc #[.slice (some ⟨d, 0, none⟩) n cap] 34).alloc #[.func (.func 89) #[] #[.pointer (some ⟨W2.heap.size, 0, none⟩)]] 76).alloc (acells .i16 100 (fun _ => 0)) 25
  simp only [World.size_alloc] at M3 ⊢
  obtain ⟨sz, hsz0⟩ : ∃ sz, sz = W2.heap.size := ⟨_, rfl⟩
  rw [← hsz0] at M3 ⊢
  have M3' : Mem w _ [⟨w.heap.size, fcells f, 32⟩, ⟨w.heap.size + 1, acells .i16 100 (fun _ => 0), 25⟩, ⟨sz, #[.slice (some ⟨d, 0, none⟩) n cap], 34⟩, ⟨sz + 1, #[.func (.func 89) #[] #[.pointer (some ⟨sz, 0, none⟩)]], 76⟩, ⟨sz + 1 + 1, acells .i16 100 (fun _ => 0), 25⟩] := M3
  generalize World.alloc _ _ = W3 at M3' ⊢
  clear M2 M3 hsz0
  gi_wp2_with (first
    | (refine loadIn hfn rfl 32 _ rfl w.heap.size 0 rfl (fcells f) _ (M3'.at 0 rfl).whole Tryd.underlying32 rfl (by rw [fcells_size]; exact sizeFd) ?_)
    | (gi_at_call 51; refine (callsIn_wide.2 (cellsIn_any f _)).mono ?_; rintro e w' ⟨rfl, rfl⟩))
  obtain ⟨bi, hbi⟩ : ∃ bi, bi = W3.heap.size := ⟨_, rfl⟩
  have M4 : Mem w (W3.alloc (Obj.cells (fcells f) 32)) [⟨w.heap.size, fcells f, 32⟩, ⟨w.heap.size + 1, acells .i16 100 (fun _ => 0), 25⟩, ⟨sz, #[.slice (some ⟨d, 0, none⟩) n cap], 34⟩, ⟨sz + 1, #[.func (.func 89) #[] #[.pointer (some ⟨sz, 0, none⟩)]], 76⟩, ⟨sz + 1 + 1, acells .i16 100 (fmL (f := f) F n []), 25⟩, ⟨bi, fcells f, 32⟩] := by rw [hbi]; exact M3'.alloc (fcells f) 32
  generalize W3.alloc _ = W4 at M4 ⊢
  rw [← hbi]
  clear hbi M3'
  have hsz : w.heap.size ≤ W4.heap.size := M4.below.size
  refine wpIn_rangeFunc_ownF rfl (by omega) (gf := 94) (lb := #[.pointer (some ⟨bi, 0, none⟩)]) rfl trivial (enters_of Tryd.func94 (by kernel_rfl) rfl)
    (cells_stops 2 bi f (inB_size hWs.out) (inB_size hHs.out) W4 (M4.at 5 rfl)) (fun h k => k.trans h)
    (fun W l o o' hl ho hc _ => World.putObj_heap_other (fun e => by
      have := (M4.at 5 rfl).lt
      omega))
    (Below.refl _ _) (fun _ => rfl)
    (fun pre W => Mem w W [⟨w.heap.size, fcells f, 32⟩, ⟨w.heap.size + 1, acells .i16 100 (fun _ => 0), 25⟩, ⟨sz, #[.slice (some ⟨d, 0, none⟩) n cap], 34⟩, ⟨sz + 1, #[.func (.func 89) #[] #[.pointer (some ⟨sz, 0, none⟩)]], 76⟩, ⟨sz + 1 + 1, acells .i16 100 (fmL F n pre), 25⟩, ⟨bi, fcells f, 32⟩])
    (fun _ _ _ => False)
    (fun s A B row hs hg hr => hs.grown hsz hg hr)
    (fun c s A B row hs hg hr => hs)
    M4
    (fun x => { tmps := #[.agg (fcells f), .slice (some ⟨d, 0, none⟩) n cap, .pointer (some ⟨w.heap.size, 0, none⟩), undef, .pointer (some ⟨w.heap.size + 1, 0, none⟩), .int .i64 0, .nilIface, .pointer (some ⟨sz + 1, 0, none⟩), .pointer (some ⟨sz + 1 + 1, 0, none⟩), .int .i64 (x.1 : Int), .agg (fcells f), .slice (some ⟨d, 0, none⟩) n cap, .nilIface, .nilIface, .bool false, undef, undef, undef, .slice (some ⟨d, 0, none⟩) n cap, .func (.func 89) #[] #[.pointer (some ⟨sz, 0, none⟩)], .agg (fcells f), .func (.func 94) #[] #[.pointer (some ⟨bi, 0, none⟩)], .int .i64 (x.1 : Int), undef, undef, undef, undef, undef, undef, undef], defers := [] }) ?assign ?body ?done ?stop
  case assign =>
    intro l x W K hK
    gi_wp2
    exact hK
  case body =>
    rintro l pre x W5 M5 _
    have hfn' : ∀ k, (Fence.wide.inRound l).fn k := fun _ => trivial
    have hdep' : (Fence.wide.inRound l).depth.isSome = false := rfl
    have hx := isCell_lt x.2
    have hx1 : (x.1 : Int) < 100 := by omega
    have hin : 0 ≤ (x.1 : Int) ∧ (x.1 : Int) ≤ 99 := ⟨by omega, by omega⟩
    have cf := (M5.at 3 rfl).cell (i := 0) rfl
    have hcall := fear1_any n hn F HF.out HS.out (x.1 : Int) hin d cap sz W5 ((M5.at 2 rfl).cell (i := 0) rfl) (HI.out.later M5.below)
    obtain ⟨v1, v2⟩ := fearTo_in (c := (x.1 : Int)) hin (n := n) HS.out
    obtain ⟨v, hv⟩ : ∃ v, fearTo F (x.1 : Int) n = v := ⟨_, rfl⟩
    rw [hv] at v1 v2 hcall
    have hset : Hid ((acells .i16 100 (fmL F n pre)).setIfInBounds x.1 (.int .i16 v) = acells .i16 100 (fmL F n (pre ++ [x]))) := Lib.hid (by rw [acells_set _ _ _ _ _ hx, fmL_snoc, hv])
    have hw16 : IntKind.i16.wrap v = v := IntWalk.i16_in _ (by omega)
    clear hv
    gi_wp2_with (refine callDynIn hfn' hdep' rfl rfl rfl #[.int .i64 (x.1 : Int), .pointer (some ⟨sz, 0, none⟩)] rfl (enters_of Tryd.func89 (by kernel_rfl) rfl) (.int .i64 v) (fun w2 => Below W5.heap.size W5 w2) (by exact CallsIn.inRound l (callsIn_wide.2 hcall)) ?_; intro W6 hb6; have M6 := M5.call hb6; have c6 := (M6.at 4 rfl).cell (acells_get _ _ _ x.1 hx); have e6 := (M6.at 4 rfl).free x.1)
    have M7 := M6.set 4 x.1 (.int .i16 v) rfl _ hset.out
    exact ⟨(KeepsOthers.of_below hb6).trans (KeepsOthers.setCell _ _ _), M5.same M7 5 5 rfl rfl, M7⟩
  case done =>
    rintro D xs W5 hD rfl M5 hK
    rw [fmL_to f F n 100] at M5
    have M6 := M5.cells 1 0 (acells .i16 100 (fmTo f F n 100)).toList rfl (acells .i16 100 (fmTo f F n 100)) ((M5.at 1 rfl).over (acells .i16 100 (fmTo f F n 100)) (by simp only [acells_size]))
    have hK6 : (W5.setCells (w.heap.size + 1) 0 (acells .i16 100 (fmTo f F n 100)).toList).heap[D]? = some (.deferred (some [])) := by
      have hne : D ≠ w.heap.size + 1 := fun e => by
        have h := M5.at 1 rfl
        rw [e] at hK
        rw [show W5.heap[w.heap.size + 1]? = _ from h] at hK
        cases hK
      rw [look_cells_other _ _ hne]; exact hK
    gi_wp2_with (first
      | (refine loadIn hfn rfl 25 _ rfl (sz + 1 + 1) 0 rfl (acells .i16 100 (fmTo f F n 100)) _ (M5.at 4 rfl).whole Tryd.underlying25 rfl (by rw [acells_size]; exact sizeS) ?_)
      | (refine storeIn hfn rfl 25 _ _ rfl (w.heap.size + 1) 0 (acells .i16 100 (fmTo f F n 100)) rfl rfl ((M5.at 1 rfl).there 0 _ (by simp only [acells_size]; omega)) (by rw [acells_size]; exact sizeS) (acells_one _ _ _) ?_))
    refine ⟨by simp, .inl ⟨_, _, rfl, run_takeDeferred hK6, ?_⟩⟩
    have M7 := M6.taken (o' := .deferred none) (Nat.le_trans hsz hD) hK6 rfl
    exact ⟨_, results_row_tmp rfl _ _ (w.heap.size + 1) 25 _ _ _ rfl (M7.at 1 rfl) Tryd.underlying25 rfl (by rw [acells_size]; exact sizeS), by rw [hr.out, hc1.out]; rfl, M7.below⟩
  case stop =>
    rintro D c pre W5 hD _ h hK
    exact h.elim
theorem implFearMap (f : Fd) (hf : f.Wf) (n : Nat) (hn : n ≤ 2 ^ 40) (F : Nat → Nat → Int) (hF : WfS ksScarecrow n F) (d cap : Nat) (hcap : n ≤ cap) (A : Nat → Addr) (w : World) (I : InS w d 0 n ksScarecrow F) (S0 : Sents w A) :
    Calls Tryd.prog 16 #[.agg (fcells f), .slice (some ⟨d, 0, none⟩) n cap] w fun e w' => e = .returned (.tuple #[.agg (acells .i16 100 (fearRow f n F)), .int .i64 (askCode f n F true)]) ∧ Below w.heap.size w w' := by
  cases hs : okScares f n F with
  | false => exact fearMap_bad f hf n hn F hF d cap hcap A w I S0 hs
  | true => exact fearMap_ok f hf n hn F hF d cap hcap A w I S0 hs
end Go.Proofs.YtpplakfmdjajiaaDoor
