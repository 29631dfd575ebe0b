/-
  All covers of a field; which cells cover one; CoverersOf: the program's.
-/
import Derived.Test.YtidddepdjokjcaaDoorCovF
namespace Go.Proofs.YtidddepdjokjcaaDoor
open Go Go.RowKit Go.Shelf
attribute [local go_sem] Oper.semAt_some

theorem zeroCv : Tryd.zeroCells65 = acells .u64 200 (fun _ => 0) := by kernel_rfl
theorem sizeCv : (Tryd.prog.info? 65).map (·.size) = some 200 := by kernel_rfl
/-- A hundred sets in a row. -/
def flat (h : Nat → Nat → Int) : Nat → Int := fun i => h (i / 2) (i % 2)
def oneCv (f : Fd) (x y : Int) (h : Nat → Nat → Int) (c : Nat) : Nat → Nat → Int := if f.K c = 3 then h else fun p => if p = c then cvS f c x y else h p
def cvL {f : Fd} (x y : Int) (l : List (CellOf f)) : Nat → Nat → Int := l.foldl (fun h c => oneCv f x y h c.1) (fun _ _ => 0)
theorem cvL_snoc {f : Fd} (x y : Int) (l : List (CellOf f)) (c : CellOf f) : cvL x y (l ++ [c]) = oneCv f x y (cvL x y l) c.1 := by simp only [cvL, List.foldl_append, List.foldl_cons, List.foldl_nil]
/-- The covers of the cells below n. -/
def cvT (f : Fd) (x y : Int) (n : Nat) : Nat → Nat → Int := fun p => if p < n ∧ isCell f (p : Int) = true ∧ f.K p ≠ 3 then cvS f p x y else fun _ => 0
theorem cvL_to (f : Fd) (x y : Int) : ∀ n, cvL x y (cellsTo f n) = cvT f x y n
  | 0 => by funext p; unfold cvT; rw [if_neg (by omega)]; rfl
  | n + 1 => by
    have ih := cvL_to f x y n
    cases hc : isCell f n with
    | true =>
      rw [cellsTo_yes hc, cvL_snoc, ih]
      funext p
      unfold oneCv cvT
      by_cases hK : f.K n = 3
      · rw [if_pos hK]
        by_cases h1 : p < n ∧ isCell f (p : Int) = true ∧ f.K p ≠ 3
        · rw [if_pos h1, if_pos ⟨by omega, h1.2⟩]
        · rw [if_neg h1, if_neg (fun h2 => by
            by_cases e : p = n
            · subst e; exact h2.2.2 hK
            · exact h1 ⟨by omega, h2.2⟩)]
      · rw [if_neg hK]
        by_cases e : p = n
        · subst e; rw [if_pos rfl, if_pos ⟨by omega, hc, hK⟩]
        · rw [if_neg e]
          by_cases h1 : p < n ∧ isCell f (p : Int) = true ∧ f.K p ≠ 3
          · rw [if_pos h1, if_pos ⟨by omega, h1.2⟩]
          · rw [if_neg h1, if_neg (fun h2 => h1 ⟨by omega, h2.2⟩)]
    | false =>
      rw [cellsTo_no hc, ih]
      funext p
      unfold cvT
      by_cases h1 : p < n ∧ isCell f (p : Int) = true ∧ f.K p ≠ 3
      · rw [if_pos h1, if_pos ⟨by omega, h1.2⟩]
      · rw [if_neg h1, if_neg (fun h2 => by
          by_cases e : p = n
          · subst e; rw [hc] at h2; exact absurd h2.2.1 (by decide)
          · exact h1 ⟨by omega, h2.2⟩)]
/-- All covers. -/
def cvAll (f : Fd) (x y : Int) : Nat → Nat → Int := cvT f x y 100
theorem flat_at (h : Nat → Nat → Int) (p : Nat) {j : Nat} (hj : j < 2) : flat h (p * 2 + j) = h p j := by
  unfold flat
  rw [show (p * 2 + j) / 2 = p by omega, show (p * 2 + j) % 2 = j by omega]
theorem flat_range {w : World} {b : Nat} {h : Nat → Nat → Int} {t : TypeId} (B : Blk w b (acells .u64 200 (flat h)) t) (p : Nat) (hp : p < 100) : w.rangeAt b (p * 2) (acells .u64 2 (h p)).toList :=
  B.range (p * 2) (fun j hj => by
    rw [acells_size] at hj
    rw [acells_get _ _ _ _ (show p * 2 + j < 200 by omega), acells_get _ _ _ _ hj, flat_at h p hj])
theorem flat_put {w : World} {b : Nat} {h : Nat → Nat → Int} {t : TypeId} (B : Blk w b (acells .u64 200 (flat h)) t) (p : Nat) (hp : p < 100) (g : Nat → Int) :
    Blk (w.setCells b (p * 2) (acells .u64 2 g).toList) b (acells .u64 200 (flat (fun q => if q = p then g else h q))) t := by
  obtain ⟨cs, h1, h2, h3⟩ := Blk.cells (acells .u64 2 g).toList _ (p * 2) w B
  have e : cs = acells .u64 200 (flat (fun q => if q = p then g else h q)) := acells_ext (by rw [h2, acells_size]) (fun i hi => by
    rw [h3 i, Array.length_toList, acells_size, acells_size]
    by_cases c : p * 2 ≤ i ∧ i < p * 2 + 2 ∧ i < 200
    · rw [if_pos c, Array.getElem?_toList, acells_get _ _ _ _ (by omega)]
      unfold flat
      show _ = some (Value.int .u64 ((if i / 2 = p then g else h (i / 2)) (i % 2)))
      rw [if_pos (show i / 2 = p by omega), show i - p * 2 = i % 2 by omega]
    · rw [if_neg c, acells_get _ _ _ _ hi]
      unfold flat
      show _ = some (Value.int .u64 ((if i / 2 = p then g else h (i / 2)) (i % 2)))
      rw [if_neg (show ¬ i / 2 = p by omega)])
  rw [← e]; exact h1
theorem open_covers (f : Fd) (x y : Int) (w : World) : ∃ W, (((w.alloc (.cells (fcells f) 33)).alloc (.cells #[.int .i64 x] 2)).alloc (.cells #[.int .i64 y] 2)).alloc (.cells (acells .u64 200 (fun _ => 0)) 65) = W ∧ Mem w W [⟨w.heap.size, fcells f, 33⟩, ⟨w.heap.size + 1, #[.int .i64 x], 2⟩, ⟨w.heap.size + 1 + 1, #[.int .i64 y], 2⟩, ⟨w.heap.size + 1 + 1 + 1, acells .u64 200 (fun _ => 0), 65⟩] := by
  have h := ((((Mem.nil w).alloc (fcells f) 33).alloc #[.int .i64 x] 2).alloc #[.int .i64 y] 2).alloc (acells .u64 200 (fun _ => 0)) 65
  simp only [World.size_alloc, List.nil_append, List.cons_append] at h
  exact ⟨_, rfl, h⟩
set_option maxRecDepth 100000 in
set_option maxHeartbeats 8000000 in
theorem coversOn_any (f : Fd) (hf : f.Wf) (hok : okF f = true) (x y : Int) (hx0 : 1 ≤ x ∧ x ≤ 1000) (A : Nat → Addr) (w : World) (S0 : Sents w A) :
    Calls Tryd.prog 32 #[.agg (fcells f), .int .i64 x, .int .i64 y] w fun e w' => e = .returned (.agg (acells .u64 200 (flat (cvAll f x y)))) ∧ Below w.heap.size w w' := by
  have S : Hid (Sents w A) := Lib.hid S0
  clear S0
  have hif := isIfaceErr
  have HX := Lib.hid hx0
  clear hx0
  have hWs : inB f.W 1 10 = true := by simp only [okF, Bool.and_eq_true] at hok; exact hok.1.1
  have hHs : inB f.H 1 10 = true := by simp only [okF, Bool.and_eq_true] at hok; exact hok.1.2
  have HWH := Lib.hid (And.intro hWs hHs)
  clear hWs hHs
  obtain ⟨G, hG⟩ : ∃ G, cvAll f x y = G := ⟨_, rfl⟩
  rw [hG]
  have HG : Hid (cvL x y (cellsTo f 100) = G) := Lib.hid (by rw [cvL_to, ← hG]; rfl)
  clear hG
  have hdep : Fence.wide.depth.isSome = false := rfl
  have hfn : ∀ k, Fence.wide.fn k := fun _ => trivial
  refine (callsIn_wide (n := 3)).1 ?_
  refine callsIn_of_wp_marks Tryd.func32 rfl trivial ?_ rfl
  simp only [Tryd.ntmps32, List.size_toArray, List.length_cons, List.length_nil, Nat.reduceAdd, Nat.reduceSub, Array.replicate_succ, Array.replicate_zero, List.push_toArray, List.append_toArray, List.nil_append, List.cons_append]
  gi_upto_region 1 with (fail)
  rw [zeroCv]
  obtain ⟨W, hW, M⟩ := open_covers f x y w
  rw [hW]; clear hW
  gi_upto_region 2 with (fail)
  (try rw [zeroCv])
  obtain ⟨cb, hcb⟩ : ∃ cb, cb = W.heap.size := ⟨_, rfl⟩
  have M3 := M.alloc (acells .u64 200 (fun _ => 0)) 65
  generalize W.alloc _ = W3 at M3 ⊢
  simp only [List.cons_append, List.nil_append] at M3
  rw [← hcb] at M3 ⊢
  clear hcb M
  gi_wp2_with (first
    | (refine loadIn hfn rfl 33 _ rfl w.heap.size 0 rfl (fcells f) _ (M3.at 0 rfl).whole Tryd.underlying33 rfl (by rw [fcells_size]; exact sizeFd) ?_)
    | (gi_at_call 57; refine (callsIn_wide.2 (cellsIn_any f _)).mono ?_; rintro e w' ⟨rfl, rfl⟩))
  obtain ⟨bi, hbi⟩ : ∃ bi, bi = W3.heap.size := ⟨_, rfl⟩
  have M4 : Mem w (W3.alloc (Obj.cells (fcells f) 33)) [⟨w.heap.size, fcells f, 33⟩, ⟨w.heap.size + 1, #[.int .i64 x], 2⟩, ⟨w.heap.size + 1 + 1, #[.int .i64 y], 2⟩, ⟨w.heap.size + 1 + 1 + 1, acells .u64 200 (fun _ => 0), 65⟩, ⟨cb, acells .u64 200 (flat (cvL (f := f) x y [])), 65⟩, ⟨bi, fcells f, 33⟩] := by rw [hbi]; exact M3.alloc (fcells f) 33
  generalize W3.alloc _ = W4 at M4 ⊢
  rw [← hbi]
  clear hbi M3
  have hsz : w.heap.size ≤ W4.heap.size := M4.below.size
  refine wpIn_rangeFunc_ownF rfl (by omega) (gf := 73) (lb := #[.pointer (some ⟨bi, 0, none⟩)]) rfl trivial (enters_of Tryd.func73 (by kernel_rfl) rfl)
    (cells_stops 2 bi f (inB_size HWH.out.1) (inB_size HWH.out.2) W4 (M4.at 5 rfl)) (fun h k => k.trans h)
    (fun W l o o' hl ho hc _ => World.putObj_heap_other (fun e => by
      have := (M4.at 5 rfl).lt
      omega))
    (Below.refl _ _) (fun _ => rfl)
    (fun pre W => Mem w W [⟨w.heap.size, fcells f, 33⟩, ⟨w.heap.size + 1, #[.int .i64 x], 2⟩, ⟨w.heap.size + 1 + 1, #[.int .i64 y], 2⟩, ⟨w.heap.size + 1 + 1 + 1, acells .u64 200 (fun _ => 0), 65⟩, ⟨cb, acells .u64 200 (flat (cvL x y pre)), 65⟩, ⟨bi, fcells f, 33⟩])
    (fun _ _ _ => False)
    (fun s A B row hs hg hr => hs.grown hsz hg hr)
    (fun c s A B row hs hg hr => hs)
    M4
    (fun z => { tmps := #[.agg (fcells f), .int .i64 x, .int .i64 y, .pointer (some ⟨w.heap.size, 0, none⟩), .pointer (some ⟨w.heap.size + 1, 0, none⟩), .pointer (some ⟨w.heap.size + 1 + 1, 0, none⟩), .pointer (some ⟨w.heap.size + 1 + 1 + 1, 0, none⟩), .pointer (some ⟨cb, 0, none⟩), .int .i64 (z.1 : Int), .agg (fcells f), .func (.func 73) #[] #[.pointer (some ⟨bi, 0, none⟩)], .int .i64 (z.1 : Int), undef, undef, undef, undef, undef, undef, undef, undef, undef, undef, undef, undef], defers := [] }) ?assign ?body ?done ?stop
  case assign =>
    intro l z W K hK
    gi_wp2
    exact hK
  case body =>
    rintro l pre z W5 M5 _
    have hfn' : ∀ k, (Fence.wide.inRound l).fn k := fun _ => trivial
    have hdep' : (Fence.wide.inRound l).depth.isSome = false := rfl
    have hz := isCell_lt z.2
    have hz1 : (z.1 : Int) < 100 := by omega
    have ok1 : True := trivial
    have ok2 : True := trivial
    by_cases hK : f.K z.1 = 3
    · have hno : Hid (cvL x y (pre ++ [z]) = cvL x y pre) := Lib.hid (by rw [cvL_snoc]; unfold oneCv; rw [if_pos hK])
      have HE : Hid (placeErr A f (z.1 : Int) = errVal (A 4)) := Lib.hid (by unfold placeErr; rw [show isCell f (z.1 : Int) = true from z.2, if_pos rfl, Int.toNat_natCast, if_pos hK])
      gi_wp2_with (first
        | (refine loadIn hfn' rfl 33 _ rfl w.heap.size 0 rfl (fcells f) _ (M5.at 0 rfl).whole Tryd.underlying33 rfl (by rw [fcells_size]; exact sizeFd) ?_)
        | (gi_at_call 58; refine (CallsIn.inRound l (callsIn_wide.2 (checkPlace_any f hf hok (z.1 : Int) (by omega) (by omega) A _ (S.out.later M5.below).two))).mono ?_; rintro e W6 ⟨rfl, hb6⟩; rw [HE.out]; have M6 := M5.call hb6))
      exact ⟨KeepsOthers.of_below hb6, M5.same M6 5 5 rfl rfl, by show Mem w _ _; rw [hno.out]; exact M6⟩
    · have hyes : Hid (cvL x y (pre ++ [z]) = fun q => if q = z.1 then cvS f z.1 x y else cvL x y pre q) := Lib.hid (by rw [cvL_snoc]; unfold oneCv; rw [if_neg hK])
      have HE : Hid (placeErr A f (z.1 : Int) = .nilIface) := Lib.hid (by unfold placeErr; rw [show isCell f (z.1 : Int) = true from z.2, if_pos rfl, Int.toNat_natCast, if_neg hK])
      have HCF := Lib.hid (fun w S => coverFrom_any f hf hok z.1 hz z.2 hK x y HX.out A w S)
      generalize cvL x y pre = h9 at M5 hyes
      obtain ⟨g9, hg9⟩ : ∃ g9, cvS f z.1 x y = g9 := ⟨_, rfl⟩
      rw [hg9] at HCF hyes
      clear hg9
      gi_upto_region 5 with (first
        | (refine loadIn hfn' rfl 33 _ rfl w.heap.size 0 rfl (fcells f) _ (M5.at 0 rfl).whole Tryd.underlying33 rfl (by rw [fcells_size]; exact sizeFd) ?_)
        | (gi_at_call 58; refine (CallsIn.inRound l (callsIn_wide.2 (checkPlace_any f hf hok (z.1 : Int) (by omega) (by omega) A _ (S.out.later M5.below).two))).mono ?_; rintro e W6 ⟨rfl, hb6⟩; rw [HE.out]; have M6 := M5.call hb6; have c1 := (M6.at 1 rfl).cell (i := 0) rfl; have c2 := (M6.at 2 rfl).cell (i := 0) rfl))
      gi_wp2_with (first
        | (refine loadIn hfn' rfl 33 _ rfl w.heap.size 0 rfl (fcells f) _ (M6.at 0 rfl).whole Tryd.underlying33 rfl (by rw [fcells_size]; exact sizeFd) ?_)
        | (gi_at_call 52; refine (CallsIn.inRound l (callsIn_wide.2 (HCF.out _ (S.out.later M6.below)))).mono ?_; rintro e W7 ⟨rfl, hb7⟩; have M7 := M6.call hb7)
        | (refine storeIn hfn' rfl 35 _ _ rfl cb (z.1 * 2) (acells .u64 2 g9) rfl rfl ((M7.at 4 rfl).there (z.1 * 2) _ (by simp only [acells_size]; omega)) (by rw [acells_size]; exact sizeC) (acells_one _ _ _) ?_))
      have M8 := M7.cells 4 (z.1 * 2) (acells .u64 2 g9).toList rfl _ (flat_put (M7.at 4 rfl) z.1 hz g9)
      exact ⟨((KeepsOthers.of_below hb6).trans (KeepsOthers.of_below hb7)).trans (keeps_setCells _ _ _ _), M5.same M8 5 5 rfl rfl, by show Mem w _ _; rw [hyes.out]; exact M8⟩
  case done =>
    rintro D xs W5 hD rfl M5 hK
    rw [HG.out] at M5
    have M6 := M5.cells 3 0 (acells .u64 200 (flat G)).toList rfl (acells .u64 200 (flat G)) ((M5.at 3 rfl).over (acells .u64 200 (flat G)) (by simp only [acells_size]))
    have hK6 : (W5.setCells (w.heap.size + 1 + 1 + 1) 0 (acells .u64 200 (flat G)).toList).heap[D]? = some (.deferred (some [])) := by
      have hne : D ≠ w.heap.size + 1 + 1 + 1 := fun e => by
        have h := M5.at 3 rfl
        rw [e] at hK
        rw [show W5.heap[w.heap.size + 1 + 1 + 1]? = _ from h] at hK
        cases hK
      rw [look_cells_other _ _ hne]; exact hK
    gi_wp2_with (first
      | (refine loadIn hfn rfl 65 _ rfl cb 0 rfl (acells .u64 200 (flat G)) _ (M5.at 4 rfl).whole Tryd.underlying65 rfl (by rw [acells_size]; exact sizeCv) ?_)
      | (refine storeIn hfn rfl 65 _ _ rfl (w.heap.size + 1 + 1 + 1) 0 (acells .u64 200 (flat G)) rfl rfl ((M5.at 3 rfl).there 0 _ (by simp only [acells_size]; omega)) (by rw [acells_size]; exact sizeCv) (acells_one _ _ _) ?_))
    refine ⟨by simp, .inl ⟨_, _, rfl, run_takeDeferred hK6, ?_⟩⟩
    have M7 := M6.taken (o' := .deferred none) (Nat.le_trans hsz hD) hK6 rfl
    exact ⟨_, results_cell_row rfl _ _ (w.heap.size + 1 + 1 + 1) 65 _ _ _ rfl (M7.at 3 rfl) Tryd.underlying65 rfl (by rw [acells_size]; exact sizeCv), rfl, M7.below⟩
  case stop =>
    rintro D c pre W5 hD _ h hK
    exact h.elim
/-- Which cells cover one, out of all covers. -/
theorem cvr_all (f : Fd) (x y : Int) (c : Nat) (hc : c < 100) : ∀ n, n ≤ 100 → wantSet f (cvrQ f c x y) n = (fun q => Nat.rec (motive := fun _ => Nat → Int) (fun _ => 0) (fun k g => if hasC (q k) (c : Int) = true then putC g k else g) n) (cvAll f x y)
  | 0, _ => rfl
  | n + 1, hn => by
    have ih := cvr_all f x y c hc n (by omega)
    rw [wantSet, ih]
    have e : (isCell f n && cvrQ f c x y n) = hasC (cvAll f x y n) (c : Int) := by
      unfold cvAll cvT cvrQ
      by_cases h : n < 100 ∧ isCell f (n : Int) = true ∧ f.K n ≠ 3
      · rw [if_pos h, h.2.1, show (f.K n != 3) = true by simpa using h.2.2]; simp
      · rw [if_neg h, hasC_zero c hc]
        cases h1 : isCell f (n : Int) with
        | false => rfl
        | true =>
          have hK : f.K n = 3 := Decidable.not_not.1 (fun hK => h ⟨by omega, h1, hK⟩)
          rw [show (f.K n != 3) = false by simp [hK]]; rfl
    rw [e]
def cvrT (G : Nat → Nat → Int) (c : Nat) : Nat → Nat → Int
  | 0 => fun _ => 0
  | k + 1 => if hasC (G k) (c : Int) = true then putC (cvrT G c k) k else cvrT G c k
theorem cvrT_rec (G : Nat → Nat → Int) (c : Nat) : ∀ n, cvrT G c n = Nat.rec (motive := fun _ => Nat → Int) (fun _ => 0) (fun k g => if hasC (G k) (c : Int) = true then putC g k else g) n
  | 0 => rfl
  | n + 1 => by rw [cvrT, cvrT_rec G c n]
theorem cvrT_all (f : Fd) (x y : Int) (c : Nat) (hc : c < 100) : cvrT (cvAll f x y) c 100 = cvrS f c x y := by
  rw [cvrT_rec]; exact (cvr_all f x y c hc 100 (Nat.le_refl _)).symm
set_option maxRecDepth 100000 in
set_option maxHeartbeats 4000000 in
theorem coverersOf_any (G : Nat → Nat → Int) (c : Nat) (b : Nat) (w : World) (B : Blk w b (acells .u64 200 (flat G)) 65) :
    Calls Tryd.prog 35 #[.pointer (some ⟨b, 0, none⟩), .int .i64 (c : Int)] w fun e w' => e = .returned (.agg (acells .u64 2 (cvrT G c 100))) ∧ Below w.heap.size w w' := by
  have HB := Lib.hid B
  clear B
  go_enter Tryd.func35, Tryd.ntmps35
  go_upto_region 2 with (fail)
  rw [zero2]
  obtain ⟨W, hW, M⟩ := open2 w (acells .u64 2 (fun _ => 0)) 35 (acells .u64 2 (fun _ => 0)) 35
  rw [hW]; clear hW
  go_wp2_with fail
  have M0 : Mem w W [⟨w.heap.size, acells .u64 2 (fun _ => 0), 35⟩, ⟨w.heap.size + 1, acells .u64 2 (cvrT G c 0), 35⟩] := M
  clear M
  go_loopw [7] (fun i wr => ∃ k : Nat, k ≤ 100 ∧ i = .int .i64 k ∧ Hid (Mem w wr [⟨w.heap.size, acells .u64 2 (fun _ => 0), 35⟩, ⟨w.heap.size + 1, acells .u64 2 (cvrT G c k), 35⟩])) (fun i _ => 100 - (intOf i).toNat)
  case atStart => exact ⟨0, by omega, rfl, Lib.hid M0⟩
  case round =>
    clear M0
    obtain ⟨k, hk', rfl, hM⟩ := hrel
    by_cases hlt : k < 100
    · have hk1 : (k : Int) < 100 := by omega
      have hR := Lib.hid (flat_range (HB.out.later hM.out.below) k hlt)
      obtain ⟨g, hg⟩ : ∃ g, G k = g := ⟨_, rfl⟩
      rw [hg] at hR
      cases hq : hasC g (c : Int) with
      | false =>
        have hno : Hid (cvrT G c (k + 1) = cvrT G c k) := Lib.hid (by rw [cvrT, hg, hq]; rfl)
        clear hg
        go_wp2_with (first
          | (refine wpList_load_part rfl 35 _ rfl b (k * 2) rfl (acells .u64 2 g) _ hR.out Tryd.underlying35 rfl (by rw [acells_size]; exact sizeC) ?_)
          | (go_at_call 50; refine (hasCell_any g (c : Int) _).mono ?_; rintro e W2 ⟨rfl, hb⟩; rw [hq]; have M2 := Lib.hid (hM.out.call hb); clear hM hb))
        go_roundw
        case rel => exact ⟨k + 1, by omega, by go_num, by rw [hno.out]; exact M2⟩
        case measure => simp [intOf]; omega
      | true =>
        have hyes : Hid (cvrT G c (k + 1) = putC (cvrT G c k) k) := Lib.hid (by rw [cvrT, hg, if_pos hq])
        clear hg
        obtain ⟨h9, hh9⟩ : ∃ h9, cvrT G c k = h9 := ⟨_, rfl⟩
        rw [hh9] at hM hyes
        clear hh9
        have ok1 : True := trivial
        have ok2 : True := trivial
        go_wp2_with (first
          | (clear ok1; refine wpList_load_part rfl 35 _ rfl b (k * 2) rfl (acells .u64 2 g) _ hR.out Tryd.underlying35 rfl (by rw [acells_size]; exact sizeC) ?_)
          | (go_at_call 50; refine (hasCell_any g (c : Int) _).mono ?_; rintro e W2 ⟨rfl, hb⟩; rw [hq]; have M2 := Lib.hid (hM.out.call hb); clear hM hb)
          | (clear ok2; refine wpList_load_part rfl 35 _ rfl (w.heap.size + 1) 0 rfl (acells .u64 2 h9) _ (M2.out.at 1 rfl).whole Tryd.underlying35 rfl (by rw [acells_size]; exact sizeC) ?_)
          | (go_at_call 53; refine (withCell_any h9 k hlt _).mono ?_; rintro e W3 ⟨rfl, hb⟩; have M3 := Lib.hid (M2.out.call hb); clear M2 hb)
          | (refine wpList_store_row rfl 35 _ _ rfl (w.heap.size + 1) (acells .u64 2 (putC h9 k)) rfl rfl 35 _ (M3.out.at 1 rfl) (by rw [acells_size]; exact sizeC) (by simp only [acells_size]) (acells_one _ _ _) ?_))
        have M4 := Lib.hid (M3.out.row 1 rfl (acells .u64 2 (putC h9 k)))
        go_roundw
        case rel => exact ⟨k + 1, by omega, by go_num, by rw [hyes.out]; exact M4⟩
        case measure => simp [intOf]; omega
    · obtain rfl : k = 100 := by omega
      obtain ⟨h9, hh9⟩ : ∃ h9, cvrT G c 100 = h9 := ⟨_, rfl⟩
      have HH := Lib.hid hh9
      rw [hh9] at hM
      clear hh9
      go_wp2_with (first
        | (refine wpList_load_part rfl 35 _ rfl (w.heap.size + 1) 0 rfl (acells .u64 2 h9) _ (hM.out.at 1 rfl).whole Tryd.underlying35 rfl (by rw [acells_size]; exact sizeC) ?_)
        | (refine wpList_store_row rfl 35 _ _ rfl w.heap.size (acells .u64 2 h9) rfl rfl 35 _ (hM.out.at 0 rfl) (by rw [acells_size]; exact sizeC) (by simp only [acells_size]) (acells_one _ _ _) ?_))
      have M2 := hM.out.row 0 rfl (acells .u64 2 h9)
      exact bodyPost_ret (results_cell_row rfl _ _ w.heap.size 35 _ _ _ rfl (M2.at 0 rfl) Tryd.underlying35 rfl (by rw [acells_size]; exact sizeC)) rfl ⟨by rw [HH.out], M2.below⟩
end Go.Proofs.YtidddepdjokjcaaDoor
