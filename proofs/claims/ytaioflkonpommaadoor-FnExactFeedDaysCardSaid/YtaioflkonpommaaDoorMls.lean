/-
  The cells to which a flock would go, as it finds them: the program's.
-/
import Derived.Test.YtaioflkonpommaaDoorWld
import Derived.Test.YtaioflkonpommaaDoorLstM
import Derived.Test.YtaioflkonpommaaDoorRegIn
import Derived.Test.YtaioflkonpommaaDoorCoreB
import Derived.Test.YtaioflkonpommaaDoorWhereF
namespace Go.Proofs.YtaioflkonpommaaDoor
open Go Go.RowKit Go.Shelf
attribute [local go_sem] Oper.semAt_some

def ksMeal : List IntKind := [.i64, .i64, .i64, .i64]
def mealR (f : Fd) (g a : Nat → Int) (k : Nat) : Nat → Int := fun j => if j = 0 then (k : Int) else if j = 1 then f.S k else if j = 2 then sq (a 0) (k : Int) else g k
/-- The meals in the cells below n. -/
def mealsR (f : Fd) (g a : Nat → Int) : Nat → List (Nat → Int)
  | 0 => []
  | n + 1 => if (isCell f (n : Int) && wldQ f g a n) = true then mealsR f g a n ++ [mealR f g a n] else mealsR f g a n
theorem mealsR_yes {f : Fd} {g a : Nat → Int} {n : Nat} (h : (isCell f (n : Int) && wldQ f g a n) = true) : mealsR f g a (n + 1) = mealsR f g a n ++ [mealR f g a n] := by rw [mealsR, if_pos h]
theorem mealsR_no {f : Fd} {g a : Nat → Int} {n : Nat} (h : (isCell f (n : Int) && wldQ f g a n) = false) : mealsR f g a (n + 1) = mealsR f g a n := by rw [mealsR, if_neg (by rw [h]; decide)]
theorem mealsR_le (f : Fd) (g a : Nat → Int) : ∀ n, (mealsR f g a n).length ≤ n
  | 0 => Nat.le_refl _
  | n + 1 => by
    have := mealsR_le f g a n
    unfold mealsR; split
    · simp; omega
    · omega
def mealsX {f : Fd} (g a : Nat → Int) (cs : List (CellOf f)) : List (Nat → Int) := cs.foldl (fun R c => if wldQ f g a c.1 = true then R ++ [mealR f g a c.1] else R) []
theorem mealsX_snoc {f : Fd} (g a : Nat → Int) (cs : List (CellOf f)) (c : CellOf f) : mealsX g a (cs ++ [c]) = if wldQ f g a c.1 = true then mealsX g a cs ++ [mealR f g a c.1] else mealsX g a cs := by simp only [mealsX, List.foldl_append, List.foldl_cons, List.foldl_nil]
theorem mealsX_to (f : Fd) (g a : Nat → Int) : ∀ n, mealsX g a (cellsTo f n) = mealsR f g a n
  | 0 => rfl
  | n + 1 => by
    have ih := mealsX_to f g a n
    cases hc : isCell f n with
    | true => rw [cellsTo_yes hc, mealsX_snoc, ih, mealsR, hc, Bool.true_and]
    | false => rw [cellsTo_no hc, ih, mealsR_no (by rw [hc]; rfl)]
theorem mealsF_len {f : Fd} (g a : Nat → Int) : ∀ (cs : List (CellOf f)) (R : List (Nat → Int)), (cs.foldl (fun R c => if wldQ f g a c.1 = true then R ++ [mealR f g a c.1] else R) R).length ≤ R.length + cs.length
  | [], R => by simp
  | c :: cs, R => by
    rw [List.foldl_cons]
    split
    · have := mealsF_len g a cs (R ++ [mealR f g a c.1]); simp only [List.length_append, List.length_cons, List.length_nil] at this ⊢; omega
    · have := mealsF_len g a cs R; simp only [List.length_cons]; omega
theorem mealsX_len {f : Fd} (g a : Nat → Int) (cs : List (CellOf f)) : (mealsX g a cs).length ≤ cs.length := by
  have := mealsF_len g a cs []
  simpa [mealsX] using this
theorem Minfo : (Tryd.prog.info? 120).map (fun i => (i.zero, i.size, i.bytes)) = some (some (.agg #[.int .i64 0, .int .i64 0, .int .i64 0, .int .i64 0]), 4, 32) := by kernel_rfl
theorem sizeMl : (Tryd.prog.info? 120).map (·.size) = some 4 := by kernel_rfl
theorem bMeal (x s q e : Int) (w : World) : (Instr.build 120 #[(0, .int .i64 x), (1, .int .i64 s), (2, .int .i64 q), (3, .int .i64 e)]).run Tryd.prog w = .ok (.agg #[.int .i64 x, .int .i64 s, .int .i64 q, .int .i64 e]) w := by kernel_rfl
theorem load_fnM (b off : Nat) (fn : FuncId) (first : Array Value) (w : World) (c : w.cell? ⟨b, off, none⟩ = some (.func (.func fn) first #[])) : (Instr.loadAt 141 (.pointer (some ⟨b, off, none⟩))).run Tryd.prog w = .ok (.func (.func fn) first #[]) w := by
  simp [go_sem, c]
theorem load_i64M (b off : Nat) (n : Int) (w : World) (c : w.cell? ⟨b, off, none⟩ = some (.int .i64 n)) : (Instr.loadAt 2 (.pointer (some ⟨b, off, none⟩))).run Tryd.prog w = .ok (.int .i64 n) w := by
  simp [go_sem, c]
theorem load_i16M (b off : Nat) (n : Int) (w : World) (c : w.cell? ⟨b, off, none⟩ = some (.int .i16 n)) : (Instr.loadAt 24 (.pointer (some ⟨b, off, none⟩))).run Tryd.prog w = .ok (.int .i16 n) w := by
  simp [go_sem, c]
theorem owns_belowM {w w' : World} {base : Nat} {e : TypeId} {size : Nat} {v : Value} {n : Nat} {xs : List Value} (h : w.ownsRow base e size v n xs) (hb : Below w.heap.size w w') : w'.ownsRow base e size v n xs :=
  ⟨h.1, h.2.imp id fun ⟨g, cap, cur, h1, h2, h3, h4⟩ => ⟨g, cap, cur, h1, h2, (hb.block g (Array.getElem?_eq_some_iff.1 h3).1).trans h3, h4⟩⟩
/-- Whether a flock wants a meal. -/
def wants (a : Nat → Int) (s q e : Int) : Bool := decide (0 < s) && decide (e ≤ a 3) && decide (q ≤ a 4)
set_option maxRecDepth 100000 in
set_option maxHeartbeats 4000000 in
theorem wants_any (a : Nat → Int) (ha : WfR a) (x s q e : Int) (w : World) :
    Calls Tryd.prog 91 #[vFlock a, .agg #[.int .i64 x, .int .i64 s, .int .i64 q, .int .i64 e]] w fun en w' => en = .returned (.bool (wants a s q e)) ∧ Below w.heap.size w w' := by
  obtain ⟨_, _, _, ⟨a31, a32⟩, ⟨a41, a42⟩, _⟩ := ha
  unfold wants
  by_cases hS : 0 < s
  case neg =>
    rw [decide_eq_false hS, Bool.false_and, Bool.false_and]
    go_enter Tryd.func91, Tryd.ntmps91
    go_upto_region 1 with (fail)
    obtain ⟨W, hW, M⟩ := open2 w (flc a) 38 #[.int .i64 x, .int .i64 s, .int .i64 q, .int .i64 e] 120
    unfold flc at hW
    rw [hW]; clear hW
    have m1 := (M.at 1 rfl).cell (i := 1) rfl
    go_wp2
    go_ret
    exact ⟨rfl, M.below⟩
  rw [decide_eq_true hS, Bool.true_and]
  by_cases hE : e ≤ a 3
  case neg =>
    rw [decide_eq_false hE, Bool.false_and]
    go_enter Tryd.func91, Tryd.ntmps91
    go_upto_region 1 with (fail)
    obtain ⟨W, hW, M⟩ := open2 w (flc a) 38 #[.int .i64 x, .int .i64 s, .int .i64 q, .int .i64 e] 120
    unfold flc at hW
    rw [hW]; clear hW
    have m1 := (M.at 1 rfl).cell (i := 1) rfl
    have m3 := (M.at 1 rfl).cell (i := 3) rfl
    have c3 := (M.at 0 rfl).cell (i := 3) (v := .int .i16 (a 3)) rfl
    go_wp2
    go_ret
    exact ⟨rfl, M.below⟩
  rw [decide_eq_true hE, Bool.true_and]
  obtain ⟨d, hd⟩ : ∃ d, decide (q ≤ a 4) = d := ⟨_, rfl⟩
  rw [hd]
  go_enter Tryd.func91, Tryd.ntmps91
  go_upto_region 1 with (fail)
  obtain ⟨W, hW, M⟩ := open2 w (flc a) 38 #[.int .i64 x, .int .i64 s, .int .i64 q, .int .i64 e] 120
  unfold flc at hW
  rw [hW]; clear hW
  have m1 := (M.at 1 rfl).cell (i := 1) rfl
  have m3 := (M.at 1 rfl).cell (i := 3) rfl
  have m2 := (M.at 1 rfl).cell (i := 2) rfl
  have c3 := (M.at 0 rfl).cell (i := 3) (v := .int .i16 (a 3)) rfl
  have c4 := (M.at 0 rfl).cell (i := 4) (v := .int .i16 (a 4)) rfl
  go_wp2
  go_ret
  exact ⟨by first | rfl | rw [hd], M.below⟩
def MlP (R : List (Nat → Int)) (w : World) (e : Ending) (w' : World) : Prop := ∃ p c, e = .returned (.slice p R.length c) ∧ SO ksMeal 120 w.heap.size w' p R.length (rowsF R) ∧ Below w.heap.size w w'
set_option maxRecDepth 100000 in
set_option maxHeartbeats 8000000 in
theorem mealsFrom_any (f : Fd) (hok : okF f = true) (g : Nat → Int) (hg : Wf16 g) (a : Nat → Int) (ha : WfR a) (tr : Nat) (htr : tr < 100) (h0 : a 0 = (tr : Int)) (w : World) :
    Calls Tryd.prog 90 #[.int .i64 (tr : Int), .agg (fcells f), .agg (acells .i16 100 g), .func (.func 91) #[vFlock a] #[]] w (MlP (mealsR f g a 100) w) := by
  have hWs : inB f.W 1 10 = true := by simp only [okF, Bool.and_eq_true] at hok; exact hok.1.1
  have hHs : inB f.H 1 10 = true := by simp only [okF, Bool.and_eq_true] at hok; exact hok.1.2
  have HWA := Lib.hid (fun (x s q e : Int) (w : World) => wants_any a ha x s q e w)
  have HMX := Lib.hid (mealsX_to f g a 100)
  have HA0 := Lib.hid h0
  have HS9 := Lib.hid (fun (i : Nat) (hi : i < 100) => (by
    simp only [okF, Bool.and_eq_true] at hok
    have := allTo_iff.1 hok.2 i hi
    simp only [cellOk, Bool.and_eq_true] at this
    exact inB_iff.1 this.1.1.2 : 0 ≤ f.S i ∧ f.S i ≤ 1000))
  have HG9 := Lib.hid hg
  obtain ⟨i0, hi, hz0, hz1, hz2⟩ := info_parts Minfo
  clear hok ha h0 hg
  have hdep : Fence.wide.depth.isSome = false := rfl
  have hfn : ∀ k, Fence.wide.fn k := fun _ => trivial
  refine (callsIn_wide (n := 3)).1 ?_
  refine callsIn_of_wp_marks Tryd.func90 rfl trivial ?_ rfl
  simp only [Tryd.ntmps90, List.size_toArray, List.length_cons, List.length_nil, Nat.reduceAdd, Nat.reduceSub, Array.replicate_succ, Array.replicate_zero, List.push_toArray, List.append_toArray, List.nil_append, List.cons_append]
  gi_upto_region 1 with (fail)
  obtain ⟨W, hW, M⟩ := open4 w #[.int .i64 (tr : Int)] 2 (fcells f) 30 (acells .i16 100 g) 36 #[.func (.func 91) #[vFlock a] #[]] 141
  rw [hW]; clear hW
  gi_upto_region 2 with (fail)
  obtain ⟨ob, hob⟩ : ∃ ob, ob = W.heap.size := ⟨_, rfl⟩
  have bO : Boxed (W.alloc (.cells #[.slice none 0 0] 117)) ob 117 (.slice none 0 0) := by rw [hob]; exact Boxed.new W 117 (.slice none 0 0)
  have hob2 : w.heap.size + 1 + 1 + 1 < ob := by rw [hob]; exact (M.at 3 rfl).lt
  have M4 : Mem w (W.alloc (.cells #[.slice none 0 0] 117)) [⟨w.heap.size, #[.int .i64 (tr : Int)], 2⟩, ⟨w.heap.size + 1, fcells f, 30⟩, ⟨w.heap.size + 1 + 1, acells .i16 100 g, 36⟩, ⟨w.heap.size + 1 + 1 + 1, #[.func (.func 91) #[vFlock a] #[]], 141⟩] := M.other _
  have hszo : ob + 1 = (W.alloc (.cells #[.slice none 0 0] 117)).heap.size := by rw [hob]; simp
  generalize W.alloc (.cells #[.slice none 0 0] 117) = W3 at bO M4 hszo ⊢
  rw [← hob]
  clear hob M
  gi_wp2_with (first
    | (refine loadIn hfn rfl 30 _ rfl (w.heap.size + 1) 0 rfl (fcells f) _ (M4.at 1 rfl).whole Tryd.underlying30 rfl (by rw [fcells_size]; exact sizeFd) ?_)
    | (gi_at_call 87; refine (callsIn_wide.2 (cellsIn_any f _)).mono ?_; rintro e w' ⟨rfl, rfl⟩))
  obtain ⟨bi, hbi⟩ : ∃ bi, bi = W3.heap.size := ⟨_, rfl⟩
  have M5 : Mem w (W3.alloc (Obj.cells (fcells f) 30)) [⟨w.heap.size, #[.int .i64 (tr : Int)], 2⟩, ⟨w.heap.size + 1, fcells f, 30⟩, ⟨w.heap.size + 1 + 1, acells .i16 100 g, 36⟩, ⟨w.heap.size + 1 + 1 + 1, #[.func (.func 91) #[vFlock a] #[]], 141⟩, ⟨bi, fcells f, 30⟩] := by rw [hbi]; exact M4.alloc (fcells f) 30
  have bO2 : Boxed (W3.alloc (Obj.cells (fcells f) 30)) ob 117 (.slice none 0 0) := bO.alloc _
  generalize W3.alloc _ = W4 at M5 bO2 ⊢
  rw [← hbi]
  have hbo : ob < bi := by omega
  clear hbi M4 bO hszo
  have hsz : w.heap.size ≤ W4.heap.size := M5.below.size
  have hobw : w.heap.size ≤ ob := by omega
  have hne : ∀ x ∈ ([⟨w.heap.size, #[.int .i64 (tr : Int)], 2⟩, ⟨w.heap.size + 1, fcells f, 30⟩, ⟨w.heap.size + 1 + 1, acells .i16 100 g, 36⟩, ⟨w.heap.size + 1 + 1 + 1, #[.func (.func 91) #[vFlock a] #[]], 141⟩, ⟨bi, fcells f, 30⟩] : List Ent), x.b ≠ ob ∧ x.t ≠ 120 := by
    intro x hx
    simp only [List.mem_cons, List.mem_nil_iff, or_false] at hx
    rcases hx with rfl | rfl | rfl | rfl | rfl
    · exact ⟨by show w.heap.size ≠ ob; omega, by show (2 : TypeId) ≠ 120; decide⟩
    · exact ⟨by show w.heap.size + 1 ≠ ob; omega, by show (30 : TypeId) ≠ 120; decide⟩
    · exact ⟨by show w.heap.size + 1 + 1 ≠ ob; omega, by show (36 : TypeId) ≠ 120; decide⟩
    · exact ⟨by show w.heap.size + 1 + 1 + 1 ≠ ob; omega, by show (141 : TypeId) ≠ 120; decide⟩
    · exact ⟨by show bi ≠ ob; omega, by show (30 : TypeId) ≠ 120; decide⟩
  refine wpIn_rangeFunc_ownF rfl (by omega) (gf := 103) (lb := #[.pointer (some ⟨bi, 0, none⟩)]) rfl trivial (enters_of Tryd.func103 (by kernel_rfl) rfl)
    (cells_stops 2 bi f (inB_size hWs) (inB_size hHs) W4 (M5.at 4 rfl)) (fun h k => k.trans h)
    (fun W l o o' hl ho hc _ => World.putObj_heap_other (fun e => by
      have := (M5.at 4 rfl).lt
      omega))
    (Below.refl _ _) (fun _ => rfl)
    (fun pre W => (∃ v, Boxed W ob 117 v ∧ W.ownsRow ob 120 4 v (mealsX g a pre).length (scells ksMeal (mealsX g a pre).length (rowsF (mealsX g a pre))).toList ∧ True) ∧ Mem w W [⟨w.heap.size, #[.int .i64 (tr : Int)], 2⟩, ⟨w.heap.size + 1, fcells f, 30⟩, ⟨w.heap.size + 1 + 1, acells .i16 100 g, 36⟩, ⟨w.heap.size + 1 + 1 + 1, #[.func (.func 91) #[vFlock a] #[]], 141⟩, ⟨bi, fcells f, 30⟩])
    (fun _ _ _ => False)
    (OwnFrom.and (Own.from (holdsRow_own ob ob 117 120 4 (fun pre : List (CellOf f) => (mealsX g a pre).length) (fun pre => (scells ksMeal (mealsX g a pre).length (rowsF (mealsX g a pre))).toList) (fun _ _ => True)) _) (fun s A B row hs hg hr => hs.grown hsz hg hr))
    (fun c s A B row hs hg hr => hs)
    ⟨⟨_, bO2, World.ownsRow_nil _ _ _ _, trivial⟩, M5⟩
    (fun x => { tmps := #[.int .i64 (tr : Int), .agg (fcells f), .agg (acells .i16 100 g), .func (.func 91) #[vFlock a] #[], .pointer (some ⟨w.heap.size, 0, none⟩), .pointer (some ⟨w.heap.size + 1, 0, none⟩), .pointer (some ⟨w.heap.size + 1 + 1, 0, none⟩), .pointer (some ⟨w.heap.size + 1 + 1 + 1, 0, none⟩), .slice none 0 0, .pointer (some ⟨ob, 0, none⟩), .int .i64 (x.1 : Int), undef, .agg (fcells f), .func (.func 103) #[] #[.pointer (some ⟨bi, 0, none⟩)], .int .i64 (x.1 : Int), undef, undef, undef, undef, undef, undef, undef, undef, undef, undef, undef, undef, undef, undef, undef, undef, undef, undef, undef, undef, undef, undef], defers := [] }) ?assign ?body ?done ?stop
  case assign =>
    intro l x W K hK
    gi_wp2
    exact hK
  case body =>
    rintro l pre x W5 ⟨⟨v, hv, hrow, _⟩, M6⟩ hlen
    have hfn' : ∀ k, (Fence.wide.inRound l).fn k := fun _ => trivial
    have hdep' : (Fence.wide.inRound l).depth.isSome = false := rfl
    have hx := isCell_lt x.2
    have hx1 : (x.1 : Int) < 100 := by omega
    obtain ⟨s1, s2⟩ := HS9.out x.1 hx
    have hgx := HG9.out x.1 hx
    have w1 : IntKind.i64.wrap (f.S x.1) = f.S x.1 := IntWalk.i64_in _ (by omega)
    have w2 : IntKind.i64.wrap (g x.1) = g x.1 := IntWalk.i64_in _ (by omega)
    have hlen' : pre.length < 100 := hlen
    have hpl := mealsX_len g a pre
    have hn0 : ob ≤ W5.heap.size := by have := hv.lt; omega
    have HBM := bMeal (x.1 : Int) (f.S x.1) (sq (tr : Int) (x.1 : Int)) (g x.1)
    gi_wp2
    refine wpIn_region_rel_tail 15 (DL [dV (.int .i64 (x.1 : Int)), dV (.int .i64 (x.1 : Int)), dV (.pointer (some ⟨w.heap.size + 1, 102, none⟩)), dV (.pointer (some ⟨w.heap.size + 1, 102 + x.1, none⟩)), dV (.int .i16 (f.S x.1)), dV (.int .i64 (f.S x.1)), dV (.int .i64 (tr : Int)), dV (.int .i64 (x.1 : Int)), dV (.int .i64 (sq (tr : Int) (x.1 : Int))), dV (.int .i64 (x.1 : Int)), dV (.pointer (some ⟨w.heap.size + 1 + 1, x.1, none⟩)), dV (.int .i16 (g x.1)), dV (.int .i64 (g x.1)), dV (.agg #[.int .i64 (x.1 : Int), .int .i64 (f.S x.1), .int .i64 (sq (tr : Int) (x.1 : Int)), .int .i64 (g x.1)]), dB (#[.int .i64 0, .int .i64 0, .int .i64 0, .int .i64 0]) 120]) (fun w' => (Mem w w' [⟨w.heap.size, #[.int .i64 (tr : Int)], 2⟩, ⟨w.heap.size + 1, fcells f, 30⟩, ⟨w.heap.size + 1 + 1, acells .i16 100 g, 36⟩, ⟨w.heap.size + 1 + 1 + 1, #[.func (.func 91) #[vFlock a] #[]], 141⟩, ⟨bi, fcells f, 30⟩]) ∧ Below W5.heap.size W5 w') hfn' hdep' (by kernel_rfl) (fun f' args w' R h => CallsIn.inRound l (callsIn_wide.2 h)) (by kernel_rfl) (by kernel_rfl) grows_memB
      (stays_DL (fun d hd => by
        simp only [List.mem_cons, List.mem_nil_iff, or_false] at hd
        rcases hd with rfl | rfl | rfl | rfl | rfl | rfl | rfl | rfl | rfl | rfl | rfl | rfl | rfl | rfl | rfl <;> first | exact stay_V | exact stay_B)) ⟨M6.drew, (Below.refl _ _).drew⟩ ?_
    refine rel_val _ rfl rfl (fun _ _ => rfl) (fun _ => ?_)
    simp only [Act.put, List.setIfInBounds_toArray, List.set_cons_zero, List.set_cons_succ]
    refine rel_val _ rfl rfl (fun _ _ => rfl) (fun _ => ?_)
    simp only [Act.put, List.setIfInBounds_toArray, List.set_cons_zero, List.set_cons_succ]
    refine rel_val (.pointer (some ⟨w.heap.size + 1, 102, none⟩)) rfl rfl (fun _ _ => by simp [execOp, Act.eval, go_sem]) (fun _ => ?_)
    simp only [Act.put, List.setIfInBounds_toArray, List.set_cons_zero, List.set_cons_succ]
    refine rel_val (.pointer (some ⟨w.heap.size + 1, 102 + x.1, none⟩)) rfl rfl (fun _ _ => by simp [execOp, Act.eval, go_sem, hx, hx1]) (fun _ => ?_)
    simp only [Act.put, List.setIfInBounds_toArray, List.set_cons_zero, List.set_cons_succ]
    refine rel_cell 24 _ rfl (w.heap.size + 1) (102 + x.1) rfl (.int .i16 (f.S x.1)) rfl rfl (fun w' c => load_i16M _ _ _ w' c) (fun w' hw' => (hw'.1.at 1 rfl).cell (fcells_S f x.1 hx)) (fun _ => ?_)
    simp only [Act.put, List.setIfInBounds_toArray, List.set_cons_zero, List.set_cons_succ]
    refine rel_val (.int .i64 (f.S x.1)) rfl rfl (fun w' _ => by simp [execOp, Act.eval, go_sem, w1]) (fun _ => ?_)
    simp only [Act.put, List.setIfInBounds_toArray, List.set_cons_zero, List.set_cons_succ]
    refine rel_cell 2 _ rfl (w.heap.size) (0) rfl (.int .i64 (tr : Int)) rfl rfl (fun w' c => load_i64M _ _ _ w' c) (fun w' hw' => (hw'.1.at 0 rfl).cell (i := 0) rfl) (fun _ => ?_)
    simp only [Act.put, List.setIfInBounds_toArray, List.set_cons_zero, List.set_cons_succ]
    refine rel_val _ rfl rfl (fun _ _ => rfl) (fun _ => ?_)
    simp only [Act.put, List.setIfInBounds_toArray, List.set_cons_zero, List.set_cons_succ]
    refine rel_call (.int .i64 (sq (tr : Int) (x.1 : Int))) 105 #[.int .i64 (tr : Int), .int .i64 (x.1 : Int)] rfl rfl rfl rfl (enters_of Tryd.func105 (by kernel_rfl) rfl) (fun w' _ => (squareBetween_any tr x.1 htr hx w').mono (fun e w2 h => ⟨h.1, by rw [← h.2]; exact Below.refl _ _⟩)) (fun _ => ?_)
    simp only [Act.put, List.setIfInBounds_toArray, List.set_cons_zero, List.set_cons_succ]
    refine rel_val _ rfl rfl (fun _ _ => rfl) (fun _ => ?_)
    simp only [Act.put, List.setIfInBounds_toArray, List.set_cons_zero, List.set_cons_succ]
    refine rel_val (.pointer (some ⟨w.heap.size + 1 + 1, x.1, none⟩)) rfl rfl (fun _ _ => by simp [execOp, Act.eval, go_sem, hx, hx1]) (fun _ => ?_)
    simp only [Act.put, List.setIfInBounds_toArray, List.set_cons_zero, List.set_cons_succ]
    refine rel_cell 24 _ rfl (w.heap.size + 1 + 1) (x.1) rfl (.int .i16 (g x.1)) rfl rfl (fun w' c => load_i16M _ _ _ w' c) (fun w' hw' => (hw'.1.at 2 rfl).cell (acells_get _ _ _ _ hx)) (fun _ => ?_)
    simp only [Act.put, List.setIfInBounds_toArray, List.set_cons_zero, List.set_cons_succ]
    refine rel_val (.int .i64 (g x.1)) rfl rfl (fun w' _ => by simp [execOp, Act.eval, go_sem, w2]) (fun _ => ?_)
    simp only [Act.put, List.setIfInBounds_toArray, List.set_cons_zero, List.set_cons_succ]
    refine rel_val (.agg #[.int .i64 (x.1 : Int), .int .i64 (f.S x.1), .int .i64 (sq (tr : Int) (x.1 : Int)), .int .i64 (g x.1)]) rfl rfl (fun w' _ => by simp [execOp, Act.eval, HBM w']) (fun _ => ?_)
    simp only [Act.put, List.setIfInBounds_toArray, List.set_cons_zero, List.set_cons_succ]
    refine rel_alloc (#[.int .i64 0, .int .i64 0, .int .i64 0, .int .i64 0]) 120 rfl rfl (fun _ => by rfl) (fun nm => ?_)
    simp only [Act.put, List.setIfInBounds_toArray, List.set_cons_zero, List.set_cons_succ]
    refine rel_nil (fun W6 inv => ?_)
    have MA := inv.mem1 (i := 14) M6 inv.cls.1 rfl
    have B6 := inv.cls.2
    have hnm : W5.heap.size ≤ nm := (inv.fact 14 _ rfl).1
    clear inv
    change wpListIn _ _ _ _ _ (_ :: []) _ _
    refine storeIn hfn' rfl 120 _ _ rfl nm 0 #[.int .i64 (x.1 : Int), .int .i64 (f.S x.1), .int .i64 (sq (tr : Int) (x.1 : Int)), .int .i64 (g x.1)] rfl rfl ((MA.at 5 rfl).there 0 _ (by show 0 + 4 ≤ 4; omega)) sizeMl (by simp [Value.oneCell']) ?_
    have MB := MA.cells 5 0 (#[.int .i64 (x.1 : Int), .int .i64 (f.S x.1), .int .i64 (sq (tr : Int) (x.1 : Int)), .int .i64 (g x.1)] : Array Value).toList rfl #[.int .i64 (x.1 : Int), .int .i64 (f.S x.1), .int .i64 (sq (tr : Int) (x.1 : Int)), .int .i64 (g x.1)] ((MA.at 5 rfl).over #[.int .i64 (x.1 : Int), .int .i64 (f.S x.1), .int .i64 (sq (tr : Int) (x.1 : Int)), .int .i64 (g x.1)] rfl)
    have B7 := below_setCells hnm (#[.int .i64 (x.1 : Int), .int .i64 (f.S x.1), .int .i64 (sq (tr : Int) (x.1 : Int)), .int .i64 (g x.1)] : Array Value).toList 0 _ B6
    generalize World.setCells _ _ _ _ = W7 at MB B7 ⊢
    clear MA B6
    have cf := (MB.at 3 rfl).cell (i := 0) rfl
    have hcall := HWA.out (x.1 : Int) (f.S x.1) (sq (tr : Int) (x.1 : Int)) (g x.1) W7
    have hwq : wldQ f g a x.1 = wants a (f.S x.1) (sq (tr : Int) (x.1 : Int)) (g x.1) := by unfold wldQ wants; rw [HA0.out, sq_comm (x.1 : Int)]
    have hst := mealsX_snoc g a pre x
    rw [hwq] at hst
    clear hwq
    cases hq : wants a (f.S x.1) (sq (tr : Int) (x.1 : Int)) (g x.1) with
    | false =>
      rw [hq] at hcall hst
      have e := Lib.hid (hst.trans (if_neg (by decide)))
      clear hst hq
      gi_wp2_with (first
        | (refine loadIn hfn' rfl 120 _ rfl nm 0 rfl #[.int .i64 (x.1 : Int), .int .i64 (f.S x.1), .int .i64 (sq (tr : Int) (x.1 : Int)), .int .i64 (g x.1)] _ (MB.at 5 rfl).whole Tryd.underlying120 rfl sizeMl ?_)
        | (refine callFirstIn hfn' hdep' rfl rfl rfl #[vFlock a, .agg #[.int .i64 (x.1 : Int), .int .i64 (f.S x.1), .int .i64 (sq (tr : Int) (x.1 : Int)), .int .i64 (g x.1)]] rfl (enters_of Tryd.func91 (by kernel_rfl) rfl) (.bool false) (fun w2 => Below W7.heap.size W7 w2) (by exact CallsIn.inRound l (callsIn_wide.2 hcall)) ?_; intro W8 hb8; have M8 := Mem.init (L := [⟨w.heap.size, #[.int .i64 (tr : Int)], 2⟩, ⟨w.heap.size + 1, fcells f, 30⟩, ⟨w.heap.size + 1 + 1, acells .i16 100 g, 36⟩, ⟨w.heap.size + 1 + 1 + 1, #[.func (.func 91) #[vFlock a] #[]], 141⟩, ⟨bi, fcells f, 30⟩]) (MB.call hb8); have B8 := B7.trans (hb8.mono B7.size)))
      have hv8 : Boxed W8 ob 117 v := Blk.later hv B8
      have hrow8 := owns_belowM hrow B8
      refine ⟨KeepsOthers.of_below B8, M6.same M8 4 4 rfl rfl, ?_⟩
      first | exact ⟨⟨v, hv8, by rw [e.out]; exact hrow8⟩, M8⟩ | exact ⟨⟨v, hv8, by rw [e.out]; exact hrow8, trivial⟩, M8⟩
    | true =>
      rw [hq] at hcall hst
      have e := Lib.hid (hst.trans (if_pos rfl))
      have hrc : Hid (rcells ksMeal (mealR f g a x.1) = [.int .i64 (x.1 : Int), .int .i64 (f.S x.1), .int .i64 (sq (tr : Int) (x.1 : Int)), .int .i64 (g x.1)]) := Lib.hid (by
        show [Value.int .i64 (x.1 : Int), .int .i64 (f.S x.1), .int .i64 (sq (a 0) (x.1 : Int)), .int .i64 (g x.1)] = _
        rw [HA0.out])
      obtain ⟨R, hR⟩ : ∃ R, mealsX g a pre = R := ⟨_, rfl⟩
      rw [hR] at hrow e hpl
      clear hR hst hq
      gi_upto_region 6 with (first
        | (refine loadIn hfn' rfl 120 _ rfl nm 0 rfl #[.int .i64 (x.1 : Int), .int .i64 (f.S x.1), .int .i64 (sq (tr : Int) (x.1 : Int)), .int .i64 (g x.1)] _ (MB.at 5 rfl).whole Tryd.underlying120 rfl sizeMl ?_)
        | (refine callFirstIn hfn' hdep' rfl rfl rfl #[vFlock a, .agg #[.int .i64 (x.1 : Int), .int .i64 (f.S x.1), .int .i64 (sq (tr : Int) (x.1 : Int)), .int .i64 (g x.1)]] rfl (enters_of Tryd.func91 (by kernel_rfl) rfl) (.bool true) (fun w2 => Below W7.heap.size W7 w2) (by exact CallsIn.inRound l (callsIn_wide.2 hcall)) ?_; intro W8 hb8; have MC := MB.call hb8; have M8 := Mem.init (L := [⟨w.heap.size, #[.int .i64 (tr : Int)], 2⟩, ⟨w.heap.size + 1, fcells f, 30⟩, ⟨w.heap.size + 1 + 1, acells .i16 100 g, 36⟩, ⟨w.heap.size + 1 + 1 + 1, #[.func (.func 91) #[vFlock a] #[]], 141⟩, ⟨bi, fcells f, 30⟩]) MC; have B8 := B7.trans (hb8.mono B7.size)))
      have hv8 : Boxed W8 ob 117 v := Blk.later hv B8
      have hrow8 := owns_belowM hrow B8
      have hn8 : ob ≤ W8.heap.size := by have := hv8.lt; omega
      clear hv hrow hb8 hcall
      obtain ⟨p9, c9, rfl⟩ := own_out hrow8
      have hc := hv8.cell
      have MO := Lib.hid (fun (v' : Value) (w1 : World) (tmp : Obj) (hg : (W8.alloc tmp).grownBy w1 _) => M8.appended v' hrow8 hg hobw hobw hne)
      gi_wp2_with (first
        | (refine loadIn hfn' rfl 120 _ rfl nm 0 rfl #[.int .i64 (x.1 : Int), .int .i64 (f.S x.1), .int .i64 (sq (tr : Int) (x.1 : Int)), .int .i64 (g x.1)] _ (MC.at 5 rfl).whole Tryd.underlying120 rfl sizeMl ?_)
        | (gi_at_builtin; refine wpListIn_append_own _ rfl _ _ 117 rfl ob 120 i0 (.agg #[.int .i64 0, .int .i64 0, .int .i64 0, .int .i64 0]) 4 32 Tryd.underlying117 hi hz0 hz1 hz2 rfl (by decide) _ _ _ rfl (hrow8.alloc _) ⟨W8.heap.size, 0, none⟩ 1 1 [.int .i64 (x.1 : Int), .int .i64 (f.S x.1), .int .i64 (sq (tr : Int) (x.1 : Int)), .int .i64 (g x.1)] rfl rfl (row_new W8 [.int .i64 (x.1 : Int), .int .i64 (f.S x.1), .int .i64 (sq (tr : Int) (x.1 : Int)), .int .i64 (g x.1)] 120) (by intro u hu; simp at hu; rcases hu with rfl | rfl | rfl | rfl <;> rfl) (by unfold maxLen; omega) (by omega) (by simp; omega) ?_; intro v' w1 hown' hgrow _; obtain ⟨g', cap', rfl⟩ := ownsRow_succ hown'; obtain ⟨hv1, hv2, hr2, hk2, hb2⟩ := hv8.appended (by decide) hrow8 hn8 (Nat.le_refl _) hown' hgrow; have hc1 := hv1.cell; have hf1 := hv1.frozen))
      have M9 := MO.out (.slice (some ⟨g', 0, none⟩) (R.length + 1) cap') _ _ hgrow
      refine ⟨(KeepsOthers.of_below B8).trans hk2, M6.same M9 4 4 rfl rfl, ⟨_, hv2, ?_, trivial⟩, M9⟩
      rw [e.out, scells_snoc, hrc.out, List.length_append]; exact hr2
  case done =>
    rintro D xs W5 hD rfl ⟨⟨v, hv, hrow, _⟩, M6⟩ hK
    rw [HMX.out] at hrow
    obtain ⟨R, hR⟩ : ∃ R, mealsR f g a 100 = R := ⟨_, rfl⟩
    rw [hR] at hrow
    obtain ⟨p9, c9, rfl⟩ := own_out hrow
    have hc := hv.cell
    have M7 := M6.taken (o' := .deferred none) (Nat.le_trans hsz hD) hK rfl
    gi_wp2
    refine ⟨by simp, .inl ⟨_, _, rfl, run_takeDeferred hK, ?_⟩⟩
    obtain ⟨p8, c8, e8, hS⟩ := Sown (ks := ksMeal) (ownsRow_putObj hrow (.deferred none) hK rfl)
    cases e8
    exact ⟨.slice p9 R.length c9, by simp [results, Tryd.results90, go_sem], by show MlP (mealsR f g a 100) w _ _; rw [hR]; exact ⟨p9, c9, rfl, hS.weak hobw, M7.below⟩⟩
  case stop =>
    rintro D c pre W5 hD _ h hK
    exact h.elim
end Go.Proofs.YtaioflkonpommaaDoor
