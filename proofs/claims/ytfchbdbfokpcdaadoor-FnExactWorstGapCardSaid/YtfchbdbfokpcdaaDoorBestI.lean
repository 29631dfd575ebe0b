/-
  The best cell of a set: the program's bestIn, for any worth that a closure tells.
-/
import Derived.Test.YtfchbdbfokpcdaaDoorBest
import Derived.Test.YtfchbdbfokpcdaaDoorRegIn
import Derived.Test.YtfchbdbfokpcdaaDoorRelC
import Derived.Test.YtfchbdbfokpcdaaDoorWhere
import Derived.Test.YtfchbdbfokpcdaaDoorEq
import Derived.Test.YtfchbdbfokpcdaaDoorErr
import Derived.BigRegion
import Derived.BigRegionIn
namespace Go.Proofs.YtfchbdbfokpcdaaDoor
open Go Go.RowKit Go.Shelf
attribute [local go_sem] Oper.semAt_some

theorem lit_u64 {n : Int} (h : 0 ≤ n ∧ n < 18446744073709551616) : (Lit.int .u64 n).wf = true := by
  have e1 : IntKind.u64.min = 0 := by decide
  have e2 : IntKind.u64.max = 18446744073709551615 := by decide
  simp [Lit.wf, e1, e2]
  omega
theorem run_equalIn_cells (f g : Nat → Int) (hf : U64 f) (hg : U64 g) (q : Bool) (hq : q = true ↔ (f 0 = g 0 ∧ f 1 = g 1)) (w : World) : (Op.equalIn 10000 43 (.agg (acells .u64 2 f)) (.agg (acells .u64 2 g))).run Tryd.prog w = .ok q w := by
  have hk : Tryd.prog.keyTypeAt 5 43 = true := by kernel_rfl
  have fm : ∀ f, (Value.agg (acells .u64 2 f)).formed Tryd.prog 43 = true := fun f => by
    simp only [Value.formed, Tryd.underlying43, acells_size]; kernel_rfl
  obtain ⟨r, hr, hiff⟩ := run_equalIn_deep 9995 5 43 hk w _ _ (.agg (acells .u64 2 f)) (.agg (acells .u64 2 g)) _ _ (fm f) (fm g)
    (keyLits_ints 0 Tryd.underlying43 Tryd.underlying39 (by kernel_rfl) (by kernel_rfl) f (fun i hi => lit_u64 (hf i))) (keyLits_ints 0 Tryd.underlying43 Tryd.underlying39 (by kernel_rfl) (by kernel_rfl) g (fun i hi => lit_u64 (hg i)))
  have e : r = q := by
    rw [Bool.eq_iff_iff, hiff, hq]
    simp [List.range_succ]
  subst e
  exact hr
/-- The cells of a field that a set has, as a set. -/
def ins (f : Fd) (g : Nat → Int) : Nat → Int := wantSet f (fun k => hasC g (k : Int)) 100
theorem hasC_ins (f : Fd) (g : Nat → Int) {j : Nat} (hj : j < 100) : hasC (ins f g) (j : Int) = inSet f g j := by
  unfold ins inSet
  rw [hasC_want f _ hj 100, decide_eq_true hj, Bool.true_and]
theorem best_ins (f : Fd) (g : Nat → Int) (v : Nat → Int) : bestTo (fun k => hasC (ins f g) (k : Int)) v 100 = bestTo (inSet f g) v 100 := best_congr (fun j hj => hasC_ins f g hj) (fun _ _ _ => rfl)
theorem ins_none {f : Fd} {g : Nat → Int} {v : Nat → Int} (h : bestTo (inSet f g) v 100 = -1) : ins f g = fun _ => 0 := want_none f _ 100 (fun j hj => best_none h j hj)
theorem ins_some {f : Fd} {g : Nat → Int} {v : Nat → Int} {p : Nat} (h : bestTo (inSet f g) v 100 = (p : Int)) : p < 100 ∧ inSet f g p = true ∧ ¬ (ins f g 0 = 0 ∧ ins f g 1 = 0) := by
  rcases best_cases (inSet f g) v 100 with h1 | ⟨q, h1, h2, h3⟩
  · rw [h1] at h; omega
  · have e : q = p := by rw [h1] at h; omega
    subst e
    exact ⟨h2, h3, want_some (q := fun k => hasC g (k : Int)) h2 h3⟩
theorem zero_u64 : U64 (fun _ => 0) := fun _ => ⟨Int.le_refl _, show (0 : Int) < 18446744073709551616 by decide⟩
theorem best_closure (g : Nat → Int) (k b : Nat) (w : World) (B : Blk w b (acells .u64 2 g) 43) : Calls Tryd.prog 55 #[.int .i64 k, .pointer (some ⟨b, 0, none⟩)] w fun e w' => e = .returned (.bool (hasC g k)) ∧ Below w.heap.size w w' := by
  go_enter Tryd.func55, Tryd.ntmps55
  go_wp2_with (first
    | (refine wpList_load_part rfl 43 _ rfl b 0 rfl (acells .u64 2 g) _ B.whole Tryd.underlying43 rfl (by rw [acells_size]; exact sizeC) ?_)
    | (go_at_call 56; refine (hasCell_any g k _).mono ?_; rintro e w1 ⟨rfl, hb1⟩))
  go_ret
  exact ⟨rfl, hb1⟩
set_option maxRecDepth 100000 in
set_option maxHeartbeats 2000000 in
theorem inField_any (f : Fd) (hok : okF f = true) (g : Nat → Int) (w : World) :
    Calls Tryd.prog 40 #[.agg (fcells f), .agg (acells .u64 2 g)] w fun e w' => e = .returned (.agg (acells .u64 2 (wantSet f (fun k => hasC g (k : Int)) 100))) ∧ Below w.heap.size w w' := by
  go_enter Tryd.func40, Tryd.ntmps40
  go_upto_region 1 with (fail)
  rw [zero2]
  obtain ⟨W, hW, M⟩ := open3 w (fcells f) 31 (acells .u64 2 g) 43 (acells .u64 2 (fun _ => 0)) 43
  rw [hW]; clear hW
  go_wp2_with (first
    | (refine wpList_load_part rfl 31 _ rfl w.heap.size 0 rfl (fcells f) _ (M.at 0 rfl).whole Tryd.underlying31 rfl (by rw [fcells_size]; exact sizeFd) ?_)
    | (go_at_call 54; refine (cellsWhere_any f hok 55 #[.pointer (some ⟨w.heap.size + 1, 0, none⟩)] (fun k => hasC g (k : Int)) (fun w' => Blk w' (w.heap.size + 1) (acells .u64 2 g) 43) (fun _ _ h hb => h.later hb) (fun k w' hk h => best_closure g k _ w' h) _ (M.at 1 rfl) (enters_of Tryd.func55 (by kernel_rfl) rfl)).mono ?_; rintro e W2 ⟨rfl, hb2⟩; have M2 := M.call hb2; clear hb2)
    | (refine wpList_store_row rfl 43 _ _ rfl (w.heap.size + 1 + 1) (acells .u64 2 (wantSet f (fun k => hasC g (k : Int)) 100)) rfl rfl 43 _ (M2.at 2 rfl) (by rw [acells_size]; exact sizeC) (by simp only [acells_size]) (acells_one _ _ _) ?_))
  have M3 := M2.row 2 rfl (acells .u64 2 (wantSet f (fun k => hasC g (k : Int)) 100))
  exact bodyPost_ret (results_cell_row rfl _ _ (w.heap.size + 1 + 1) 43 _ _ _ rfl (M3.at 2 rfl) Tryd.underlying43 rfl (by rw [acells_size]; exact sizeC)) rfl ⟨rfl, M3.below⟩
set_option maxRecDepth 100000 in
set_option maxHeartbeats 2000000 in
theorem bestIn_none (f : Fd) (hok : okF f = true) (g : Nat → Int) (fc : FuncId) (caps : Array Value) (v : Nat → Int) (hv : bestTo (inSet f g) v 100 = -1) (A : Nat → Addr) (w : World) (S0 : Sents w A) :
    Calls Tryd.prog 43 #[.agg (fcells f), .agg (acells .u64 2 g), .func (.func fc) #[] caps] w fun e w' => e = .returned (.tuple #[.int .i64 0, errVal (A 6)]) ∧ Below w.heap.size w w' := by
  have S : Hid (Sents w A) := Lib.hid S0
  have hins : Hid (wantSet f (fun k => hasC g (k : Int)) 100 = fun _ => 0) := Lib.hid (ins_none hv)
  clear S0
  go_enter Tryd.func43, Tryd.ntmps43
  go_upto_region 1 with (fail)
  obtain ⟨W, hW, M⟩ := open3 w (fcells f) 31 (acells .u64 2 g) 43 #[.func (.func fc) #[] caps] 79
  rw [hW]; clear hW
  go_upto_region 2 with (first
    | (refine wpList_load_part rfl 31 _ rfl w.heap.size 0 rfl (fcells f) _ (M.at 0 rfl).whole Tryd.underlying31 rfl (by rw [fcells_size]; exact sizeFd) ?_)
    | (refine wpList_load_part rfl 43 _ rfl (w.heap.size + 1) 0 rfl (acells .u64 2 g) _ (M.at 1 rfl).whole Tryd.underlying43 rfl (by rw [acells_size]; exact sizeC) ?_)
    | (go_at_call 40; refine (inField_any f hok g _).mono ?_; rintro e W2 ⟨rfl, hb2⟩; rw [hins.out]; have M2 := M.call hb2; clear hb2)
    | (refine wpList_store_row rfl 43 _ _ rfl W2.heap.size (acells .u64 2 (fun _ => 0)) rfl rfl 43 _ ((M2.alloc #[.int .u64 0, .int .u64 0] 43).at 3 rfl) (by rw [acells_size]; exact sizeC) (by rw [acells_size]; rfl) (acells_one _ _ _) ?_))
  have M3 := (M2.alloc #[.int .u64 0, .int .u64 0] 43).row 3 rfl (acells .u64 2 (fun _ => 0))
  generalize World.setRow _ _ _ = W3 at M3 ⊢
  have hv6 := (S.out.later M3.below).v6
  go_wp2_with (first
    | (refine wpList_load_part rfl 43 _ rfl W2.heap.size 0 rfl (acells .u64 2 (fun _ => 0)) _ (M3.at 3 rfl).whole Tryd.underlying43 rfl (by rw [acells_size]; exact sizeC) ?_)
    | (refine wpList_eql rfl 43 _ _ _ rfl (acells .u64 2 (fun _ => 0)) (acells .u64 2 (fun _ => 0)) rfl rfl (by kernel_rfl) true (run_equalIn_cells _ _ zero_u64 zero_u64 true (by simp) _) ?_))
  go_region
  all_goals go_wp2_with fail
  all_goals exact bodyPost_ret (v := .tuple #[.int .i64 0, errVal (A 6)]) (by simp [results, Tryd.results43, go_sem]) rfl ⟨rfl, M3.drew.below⟩
set_option maxRecDepth 100000 in
theorem load_fn1 (b off : Nat) (f : FuncId) (caps : Array Value) (w : World) (c : w.cell? ⟨b, off, none⟩ = some (.func (.func f) #[] caps)) : (Instr.loadAt 79 (.pointer (some ⟨b, off, none⟩))).run Tryd.prog w = .ok (.func (.func f) #[] caps) w := by
  simp [go_sem, c]
theorem load_n64 (b off : Nat) (n : Int) (w : World) (c : w.cell? ⟨b, off, none⟩ = some (.int .i64 n)) : (Instr.loadAt 2 (.pointer (some ⟨b, off, none⟩))).run Tryd.prog w = .ok (.int .i64 n) w := by
  simp [go_sem, c]
set_option maxRecDepth 100000 in
set_option maxHeartbeats 8000000 in
theorem bestIn_some (f : Fd) (hok : okF f = true) (g : Nat → Int) (fc : FuncId) (eb : Nat) (v : Nat → Int) (p : Nat) (hv : bestTo (inSet f g) v 100 = (p : Int)) (E : World → Prop) (hE : ∀ w w', E w → Below w.heap.size w w' → E w')
    (hcl : ∀ (k : Nat) (w' : World), isCell f k = true → E w' → Calls Tryd.prog fc #[.int .i64 k, .pointer (some ⟨eb, 0, none⟩)] w' fun e w2 => e = .returned (.int .i64 (v k)) ∧ Below w'.heap.size w' w2)
    (hent : ∀ (args : Array Value) (w : World), (callFunc fc args).run Tryd.prog w = .ok (.enter fc args) w) (w : World) (he : E w) :
    Calls Tryd.prog 43 #[.agg (fcells f), .agg (acells .u64 2 g), .func (.func fc) #[] #[.pointer (some ⟨eb, 0, none⟩)]] w fun e w' => e = .returned (.tuple #[.int .i64 p, .nilIface]) ∧ Below w.heap.size w w' := by
  obtain ⟨hp, hpm, hne⟩ := ins_some hv
  have HNE := Lib.hid hne
  have HV := Lib.hid hv
  have HCL := Lib.hid hcl
  have HE := Lib.hid hE
  have E0 := Lib.hid he
  have HENT := Lib.hid hent
  clear hcl hE he hent hne hv hpm
  have hdep : Fence.wide.depth.isSome = false := rfl
  have hfn : ∀ k, Fence.wide.fn k := fun _ => trivial
  refine (callsIn_wide (n := 3)).1 ?_
  refine callsIn_of_wp_marks Tryd.func43 rfl trivial ?_ rfl
  simp only [Tryd.ntmps43, List.size_toArray, List.length_cons, List.length_nil, Nat.reduceAdd, Nat.reduceSub, Array.replicate_succ, Array.replicate_zero, List.push_toArray, List.append_toArray, List.nil_append, List.cons_append]
  gi_upto_region 1 with (fail)
  obtain ⟨W, hW, M⟩ := open3 w (fcells f) 31 (acells .u64 2 g) 43 #[.func (.func fc) #[] #[.pointer (some ⟨eb, 0, none⟩)]] 79
  rw [hW]; clear hW
  gi_upto_region 2 with (first
    | (refine loadIn hfn rfl 31 _ rfl w.heap.size 0 rfl (fcells f) _ (M.at 0 rfl).whole Tryd.underlying31 rfl (by rw [fcells_size]; exact sizeFd) ?_)
    | (refine loadIn hfn rfl 43 _ rfl (w.heap.size + 1) 0 rfl (acells .u64 2 g) _ (M.at 1 rfl).whole Tryd.underlying43 rfl (by rw [acells_size]; exact sizeC) ?_)
    | (gi_at_call 40; refine (callsIn_wide.2 (inField_any f hok g _)).mono ?_; rintro e W2 ⟨rfl, hb2⟩; rw [show wantSet f (fun k => hasC g (k : Int)) 100 = ins f g from rfl]; have M2 := M.call hb2; clear hb2)
    | (refine storeIn hfn rfl 43 _ _ rfl W2.heap.size 0 (acells .u64 2 (ins f g)) rfl rfl (((M2.alloc #[.int .u64 0, .int .u64 0] 43).at 3 rfl).there 0 _ (by rw [acells_size]; decide)) (by rw [acells_size]; exact sizeC) (acells_one _ _ _) ?_))
  have M3 := (M2.alloc #[.int .u64 0, .int .u64 0] 43).cells 3 0 (acells .u64 2 (ins f g)).toList rfl (acells .u64 2 (ins f g)) (((M2.alloc #[.int .u64 0, .int .u64 0] 43).at 3 rfl).over (acells .u64 2 (ins f g)) (by rw [acells_size]; rfl))
  obtain ⟨ib, hib⟩ : ∃ ib, ib = W2.heap.size := ⟨_, rfl⟩
  rw [← hib] at M3 ⊢
  clear hib M M2
  generalize World.setCells _ _ _ _ = W3 at M3 ⊢
  have M3' : Mem w W3 [⟨w.heap.size, fcells f, 31⟩, ⟨w.heap.size + 1, acells .u64 2 g, 43⟩, ⟨w.heap.size + 1 + 1, #[.func (.func fc) #[] #[.pointer (some ⟨eb, 0, none⟩)]], 79⟩, ⟨ib, acells .u64 2 (ins f g), 43⟩] := M3
  clear M3
  gi_upto_region 5 with (first
    | (refine loadIn hfn rfl 43 _ rfl ib 0 rfl (acells .u64 2 (ins f g)) _ (M3'.at 3 rfl).whole Tryd.underlying43 rfl (by rw [acells_size]; exact sizeC) ?_)
    | (refine eqlIn hfn rfl 43 _ _ _ rfl (acells .u64 2 (ins f g)) (acells .u64 2 (fun _ => 0)) rfl rfl (by kernel_rfl) false (run_equalIn_cells _ _ (want_u64 _ _ _) zero_u64 false (by simp only [Bool.false_eq_true, false_iff]; exact HNE.out) _) ?_))
  gi_wp2_with (first
    | (refine loadIn hfn rfl 43 _ rfl ib 0 rfl (acells .u64 2 (ins f g)) _ ((M3'.alloc _ _).at 3 rfl).whole Tryd.underlying43 rfl (by rw [acells_size]; exact sizeC) ?_)
    | (gi_at_call 58; refine (callsIn_wide.2 (numbersIn_any (ins f g) _)).mono ?_; rintro e w' ⟨rfl, rfl⟩))
  obtain ⟨nb, hnb⟩ : ∃ nb, nb = W3.heap.size := ⟨_, rfl⟩
  have M4 := M3'.alloc #[.int .i64 (-1)] 2
  have hs4 : (W3.alloc (Obj.cells #[.int .i64 (-1)] 2)).heap.size = W3.heap.size + 1 := World.size_alloc _ _
  rw [← hnb] at M4 hs4 ⊢
  clear hnb M3'
  generalize W3.alloc _ = W4 at M4 hs4 ⊢
  obtain ⟨bi, hbi⟩ : ∃ bi, bi = nb + 1 := ⟨_, rfl⟩
  have M4b := M4.alloc (acells .u64 2 (ins f g)) 43
  rw [hs4, ← hbi] at M4b
  rw [← hbi]
  clear hbi M4 hs4
  generalize W4.alloc _ = W4b at M4b ⊢
  have M4' : Mem w W4b [⟨w.heap.size, fcells f, 31⟩, ⟨w.heap.size + 1, acells .u64 2 g, 43⟩, ⟨w.heap.size + 1 + 1, #[.func (.func fc) #[] #[.pointer (some ⟨eb, 0, none⟩)]], 79⟩, ⟨ib, acells .u64 2 (ins f g), 43⟩, ⟨nb, #[.int .i64 (bestL (g := ins f g) v [])], 2⟩, ⟨bi, acells .u64 2 (ins f g), 43⟩] := M4b
  clear M4b
  have hsz : w.heap.size ≤ W4b.heap.size := M4'.below.size
  refine wpIn_rangeFunc_ownF rfl (by omega) (gf := 72) (lb := #[.pointer (some ⟨bi, 0, none⟩)]) rfl trivial (enters_of Tryd.func72 (by kernel_rfl) rfl)
    (nums_stops 2 bi (ins f g) W4b (M4'.at 5 rfl)) (fun h k => k.trans h)
    (fun W l o o' hl ho hc _ => World.putObj_heap_other (fun e => by
      have := (M4'.at 5 rfl).lt
      omega))
    (Below.refl _ _) (fun _ => rfl)
    (fun pre W => Mem w W [⟨w.heap.size, fcells f, 31⟩, ⟨w.heap.size + 1, acells .u64 2 g, 43⟩, ⟨w.heap.size + 1 + 1, #[.func (.func fc) #[] #[.pointer (some ⟨eb, 0, none⟩)]], 79⟩, ⟨ib, acells .u64 2 (ins f g), 43⟩, ⟨nb, #[.int .i64 (bestL v pre)], 2⟩, ⟨bi, acells .u64 2 (ins f g), 43⟩])
    (fun _ _ _ => False)
    (fun s A B row hs hg hr => hs.grown hsz hg hr)
    (fun c s A B row hs hg hr => hs)
    M4'
    (fun x => { tmps := #[.agg (fcells f), .agg (acells .u64 2 g), .func (.func fc) #[] #[.pointer (some ⟨eb, 0, none⟩)], .pointer (some ⟨w.heap.size, 0, none⟩), .pointer (some ⟨w.heap.size + 1, 0, none⟩), .pointer (some ⟨w.heap.size + 1 + 1, 0, none⟩), .int .i64 0, .nilIface, .pointer (some ⟨ib, 0, none⟩), .pointer (some ⟨nb, 0, none⟩), .int .i64 (x.1 : Int), .agg (fcells f), .agg (acells .u64 2 g), .agg (acells .u64 2 (ins f g)), .agg (acells .u64 2 (ins f g)), .agg #[.int .u64 0, .int .u64 0], .bool false, undef, .agg (acells .u64 2 (ins f g)), .func (.func 72) #[] #[.pointer (some ⟨bi, 0, none⟩)], .int .i64 (x.1 : Int), undef, undef, undef, undef, undef, undef, undef, undef, undef, undef, undef, undef, undef], defers := [] }) ?assign ?body ?done ?stop
  case assign =>
    intro l x W K hK
    gi_wp2
    exact hK
  case body =>
    rintro l pre x W5 M5 _
    have hfn' : ∀ k, (Fence.wide.inRound l).fn k := fun _ => trivial
    have hdep' : (Fence.wide.inRound l).depth.isSome = false := rfl
    have hin : ∀ j : Nat, j < 100 → hasC (ins f g) (j : Int) = true → isCell f (j : Int) = true := fun j hj h => by
      rw [hasC_ins f g hj] at h
      unfold inSet at h
      simp only [Bool.and_eq_true] at h
      exact h.1
    have hxc := hin x.1 x.2.1 x.2.2
    rcases bestL_cases v pre with h1 | ⟨q, h1, h2, h3⟩
    · have hyes : Hid (bestL v (pre ++ [x]) = (x.1 : Int)) := Lib.hid (bestL_first h1)
      rw [h1] at M5
      clear h1
      gi_wp2
      refine wpIn_region_rel_tail 10 (DL [dV (.int .i64 (-1)), dV (.bool true), dV (.bool true)]) (fun w' => Mem w w' [⟨w.heap.size, fcells f, 31⟩, ⟨w.heap.size + 1, acells .u64 2 g, 43⟩, ⟨w.heap.size + 1 + 1, #[.func (.func fc) #[] #[.pointer (some ⟨eb, 0, none⟩)]], 79⟩, ⟨ib, acells .u64 2 (ins f g), 43⟩, ⟨nb, #[.int .i64 (-1)], 2⟩, ⟨bi, acells .u64 2 (ins f g), 43⟩] ∧ Below W5.heap.size W5 w') hfn' hdep' (by kernel_rfl) (fun f' args w' R h => CallsIn.inRound l (callsIn_wide.2 h)) (by kernel_rfl) (by kernel_rfl) grows_memB
        (stays_DL (fun d hd => by
          simp only [List.mem_cons, List.mem_nil_iff, or_false] at hd
          rcases hd with rfl | rfl | rfl <;> exact stay_V)) ⟨M5.drew, (Below.refl _ _).drew⟩ ?_
      refine rel_cell 2 _ rfl nb 0 rfl (.int .i64 (-1)) rfl rfl (fun w' c => load_n64 _ _ _ w' c) (fun w' hw' => (hw'.1.at 4 rfl).cell (i := 0) rfl) (fun _ => ?_)
      simp only [Act.put, List.setIfInBounds_toArray, List.set_cons_zero, List.set_cons_succ]
      refine rel_val (.bool true) rfl rfl (fun w' _ => rfl) (fun _ => ?_)
      simp only [Act.put, List.setIfInBounds_toArray, List.set_cons_zero, List.set_cons_succ]
      refine rel_val (.bool true) rfl rfl (fun _ _ => rfl) (fun _ => ?_)
      simp only [Act.put, List.setIfInBounds_toArray, List.set_cons_zero, List.set_cons_succ]
      refine rel_skip rfl ?_
      simp only [Act.put, List.setIfInBounds_toArray, List.set_cons_zero, List.set_cons_succ]
      refine rel_skip rfl ?_
      simp only [Act.put, List.setIfInBounds_toArray, List.set_cons_zero, List.set_cons_succ]
      refine rel_skip rfl ?_
      simp only [Act.put, List.setIfInBounds_toArray, List.set_cons_zero, List.set_cons_succ]
      refine rel_skip rfl ?_
      simp only [Act.put, List.setIfInBounds_toArray, List.set_cons_zero, List.set_cons_succ]
      refine rel_skip rfl ?_
      simp only [Act.put, List.setIfInBounds_toArray, List.set_cons_zero, List.set_cons_succ]
      refine rel_skip rfl ?_
      simp only [Act.put, List.setIfInBounds_toArray, List.set_cons_zero, List.set_cons_succ]
      refine rel_skip rfl ?_
      simp only [Act.put, List.setIfInBounds_toArray, List.set_cons_zero, List.set_cons_succ]
      refine rel_nil (fun w' inv => ?_)
      have M6 := inv.cls.1
      have B6 := inv.cls.2
      clear inv
      change wpListIn _ _ _ _ _ (_ :: []) _ _
      have e4 := (M6.at 4 rfl).free 0
      have c4 := (M6.at 4 rfl).cell (i := 0) rfl
      gi_wp2
      have M8 := M6.set 4 0 (.int .i64 (x.1 : Int)) rfl _ rfl
      exact ⟨(KeepsOthers.of_below B6).trans (KeepsOthers.setCell _ _ _), M5.same M8 5 5 rfl rfl, by show Mem w _ _; rw [hyes.out]; exact M8⟩
    · have hqc := hin q h2 h3
      have hq0 : Hid (decide ((q : Int) < 0) = false) := Lib.hid (decide_eq_false (by omega))
      clear h2 h3
      by_cases h4 : v q < v x.1
      · have hyes : Hid (bestL v (pre ++ [x]) = (x.1 : Int)) := Lib.hid (bestL_more h1 h4)
        have hcmp : Hid (decide (v x.1 > v q) = true) := Lib.hid (decide_eq_true h4)
        rw [h1] at M5
        clear h1 h4
        gi_wp2
        refine wpIn_region_rel_tail 10 (DL [dV (.int .i64 (q : Int)), dV (.bool false), dV (.bool false), dV (.func (.func fc) #[] #[.pointer (some ⟨eb, 0, none⟩)]), dV (.int .i64 (x.1 : Int)), dV (.int .i64 (v x.1)), dV (.func (.func fc) #[] #[.pointer (some ⟨eb, 0, none⟩)]), dV (.int .i64 (q : Int)), dV (.int .i64 (v q)), dV (.bool true)]) (fun w' => Mem w w' [⟨w.heap.size, fcells f, 31⟩, ⟨w.heap.size + 1, acells .u64 2 g, 43⟩, ⟨w.heap.size + 1 + 1, #[.func (.func fc) #[] #[.pointer (some ⟨eb, 0, none⟩)]], 79⟩, ⟨ib, acells .u64 2 (ins f g), 43⟩, ⟨nb, #[.int .i64 (q : Int)], 2⟩, ⟨bi, acells .u64 2 (ins f g), 43⟩] ∧ Below W5.heap.size W5 w') hfn' hdep' (by kernel_rfl) (fun f' args w' R h => CallsIn.inRound l (callsIn_wide.2 h)) (by kernel_rfl) (by kernel_rfl) grows_memB
          (stays_DL (fun d hd => by
            simp only [List.mem_cons, List.mem_nil_iff, or_false] at hd
            rcases hd with rfl | rfl | rfl | rfl | rfl | rfl | rfl | rfl | rfl | rfl <;> exact stay_V)) ⟨M5.drew, (Below.refl _ _).drew⟩ ?_
        refine rel_cell 2 _ rfl nb 0 rfl (.int .i64 (q : Int)) rfl rfl (fun w' c => load_n64 _ _ _ w' c) (fun w' hw' => (hw'.1.at 4 rfl).cell (i := 0) rfl) (fun _ => ?_)
        simp only [Act.put, List.setIfInBounds_toArray, List.set_cons_zero, List.set_cons_succ]
        refine rel_val (.bool false) rfl rfl (fun w' _ => by rw [← hq0.out]; rfl) (fun _ => ?_)
        simp only [Act.put, List.setIfInBounds_toArray, List.set_cons_zero, List.set_cons_succ]
        refine rel_val (.bool false) rfl rfl (fun _ _ => rfl) (fun _ => ?_)
        simp only [Act.put, List.setIfInBounds_toArray, List.set_cons_zero, List.set_cons_succ]
        refine rel_cell 79 _ rfl (w.heap.size + 1 + 1) 0 rfl (.func (.func fc) #[] #[.pointer (some ⟨eb, 0, none⟩)]) rfl rfl (fun w' c => load_fn1 _ _ _ _ w' c) (fun w' hw' => (hw'.1.at 2 rfl).cell (i := 0) rfl) (fun _ => ?_)
        simp only [Act.put, List.setIfInBounds_toArray, List.set_cons_zero, List.set_cons_succ]
        refine rel_val (.int .i64 (x.1 : Int)) rfl rfl (fun _ _ => rfl) (fun _ => ?_)
        simp only [Act.put, List.setIfInBounds_toArray, List.set_cons_zero, List.set_cons_succ]
        refine rel_callDyn _ fc #[.int .i64 (x.1 : Int), .pointer (some ⟨eb, 0, none⟩)] rfl rfl rfl rfl rfl HENT.out (fun w' hw' => HCL.out x.1 w' hxc (HE.out _ _ E0.out hw'.1.below)) (fun _ => ?_)
        simp only [Act.put, List.setIfInBounds_toArray, List.set_cons_zero, List.set_cons_succ]
        refine rel_cell 79 _ rfl (w.heap.size + 1 + 1) 0 rfl (.func (.func fc) #[] #[.pointer (some ⟨eb, 0, none⟩)]) rfl rfl (fun w' c => load_fn1 _ _ _ _ w' c) (fun w' hw' => (hw'.1.at 2 rfl).cell (i := 0) rfl) (fun _ => ?_)
        simp only [Act.put, List.setIfInBounds_toArray, List.set_cons_zero, List.set_cons_succ]
        refine rel_cell 2 _ rfl nb 0 rfl (.int .i64 (q : Int)) rfl rfl (fun w' c => load_n64 _ _ _ w' c) (fun w' hw' => (hw'.1.at 4 rfl).cell (i := 0) rfl) (fun _ => ?_)
        simp only [Act.put, List.setIfInBounds_toArray, List.set_cons_zero, List.set_cons_succ]
        refine rel_callDyn _ fc #[.int .i64 (q : Int), .pointer (some ⟨eb, 0, none⟩)] rfl rfl rfl rfl rfl HENT.out (fun w' hw' => HCL.out q w' hqc (HE.out _ _ E0.out hw'.1.below)) (fun _ => ?_)
        simp only [Act.put, List.setIfInBounds_toArray, List.set_cons_zero, List.set_cons_succ]
        refine rel_val (.bool true) rfl rfl (fun w' _ => Eq.trans (show _ = Result.ok (Next.value (.bool (decide (v x.1 > v q)))) w' from rfl) (by rw [hcmp.out])) (fun _ => ?_)
        simp only [Act.put, List.setIfInBounds_toArray, List.set_cons_zero, List.set_cons_succ]
        refine rel_nil (fun w' inv => ?_)
        have M6 := inv.cls.1
        have B6 := inv.cls.2
        clear inv
        change wpListIn _ _ _ _ _ (_ :: []) _ _
        have e4 := (M6.at 4 rfl).free 0
        have c4 := (M6.at 4 rfl).cell (i := 0) rfl
        gi_wp2
        have M8 := M6.set 4 0 (.int .i64 (x.1 : Int)) rfl _ rfl
        exact ⟨(KeepsOthers.of_below B6).trans (KeepsOthers.setCell _ _ _), M5.same M8 5 5 rfl rfl, by show Mem w _ _; rw [hyes.out]; exact M8⟩
      · have hno : Hid (bestL v (pre ++ [x]) = (q : Int)) := Lib.hid (bestL_less h1 h4)
        have hcmp : Hid (decide (v x.1 > v q) = false) := Lib.hid (decide_eq_false h4)
        rw [h1] at M5
        clear h1 h4
        gi_wp2
        refine wpIn_region_rel_tail 10 (DL [dV (.int .i64 (q : Int)), dV (.bool false), dV (.bool false), dV (.func (.func fc) #[] #[.pointer (some ⟨eb, 0, none⟩)]), dV (.int .i64 (x.1 : Int)), dV (.int .i64 (v x.1)), dV (.func (.func fc) #[] #[.pointer (some ⟨eb, 0, none⟩)]), dV (.int .i64 (q : Int)), dV (.int .i64 (v q)), dV (.bool false)]) (fun w' => Mem w w' [⟨w.heap.size, fcells f, 31⟩, ⟨w.heap.size + 1, acells .u64 2 g, 43⟩, ⟨w.heap.size + 1 + 1, #[.func (.func fc) #[] #[.pointer (some ⟨eb, 0, none⟩)]], 79⟩, ⟨ib, acells .u64 2 (ins f g), 43⟩, ⟨nb, #[.int .i64 (q : Int)], 2⟩, ⟨bi, acells .u64 2 (ins f g), 43⟩] ∧ Below W5.heap.size W5 w') hfn' hdep' (by kernel_rfl) (fun f' args w' R h => CallsIn.inRound l (callsIn_wide.2 h)) (by kernel_rfl) (by kernel_rfl) grows_memB
          (stays_DL (fun d hd => by
            simp only [List.mem_cons, List.mem_nil_iff, or_false] at hd
            rcases hd with rfl | rfl | rfl | rfl | rfl | rfl | rfl | rfl | rfl | rfl <;> exact stay_V)) ⟨M5.drew, (Below.refl _ _).drew⟩ ?_
        refine rel_cell 2 _ rfl nb 0 rfl (.int .i64 (q : Int)) rfl rfl (fun w' c => load_n64 _ _ _ w' c) (fun w' hw' => (hw'.1.at 4 rfl).cell (i := 0) rfl) (fun _ => ?_)
        simp only [Act.put, List.setIfInBounds_toArray, List.set_cons_zero, List.set_cons_succ]
        refine rel_val (.bool false) rfl rfl (fun w' _ => by rw [← hq0.out]; rfl) (fun _ => ?_)
        simp only [Act.put, List.setIfInBounds_toArray, List.set_cons_zero, List.set_cons_succ]
        refine rel_val (.bool false) rfl rfl (fun _ _ => rfl) (fun _ => ?_)
        simp only [Act.put, List.setIfInBounds_toArray, List.set_cons_zero, List.set_cons_succ]
        refine rel_cell 79 _ rfl (w.heap.size + 1 + 1) 0 rfl (.func (.func fc) #[] #[.pointer (some ⟨eb, 0, none⟩)]) rfl rfl (fun w' c => load_fn1 _ _ _ _ w' c) (fun w' hw' => (hw'.1.at 2 rfl).cell (i := 0) rfl) (fun _ => ?_)
        simp only [Act.put, List.setIfInBounds_toArray, List.set_cons_zero, List.set_cons_succ]
        refine rel_val (.int .i64 (x.1 : Int)) rfl rfl (fun _ _ => rfl) (fun _ => ?_)
        simp only [Act.put, List.setIfInBounds_toArray, List.set_cons_zero, List.set_cons_succ]
        refine rel_callDyn _ fc #[.int .i64 (x.1 : Int), .pointer (some ⟨eb, 0, none⟩)] rfl rfl rfl rfl rfl HENT.out (fun w' hw' => HCL.out x.1 w' hxc (HE.out _ _ E0.out hw'.1.below)) (fun _ => ?_)
        simp only [Act.put, List.setIfInBounds_toArray, List.set_cons_zero, List.set_cons_succ]
        refine rel_cell 79 _ rfl (w.heap.size + 1 + 1) 0 rfl (.func (.func fc) #[] #[.pointer (some ⟨eb, 0, none⟩)]) rfl rfl (fun w' c => load_fn1 _ _ _ _ w' c) (fun w' hw' => (hw'.1.at 2 rfl).cell (i := 0) rfl) (fun _ => ?_)
        simp only [Act.put, List.setIfInBounds_toArray, List.set_cons_zero, List.set_cons_succ]
        refine rel_cell 2 _ rfl nb 0 rfl (.int .i64 (q : Int)) rfl rfl (fun w' c => load_n64 _ _ _ w' c) (fun w' hw' => (hw'.1.at 4 rfl).cell (i := 0) rfl) (fun _ => ?_)
        simp only [Act.put, List.setIfInBounds_toArray, List.set_cons_zero, List.set_cons_succ]
        refine rel_callDyn _ fc #[.int .i64 (q : Int), .pointer (some ⟨eb, 0, none⟩)] rfl rfl rfl rfl rfl HENT.out (fun w' hw' => HCL.out q w' hqc (HE.out _ _ E0.out hw'.1.below)) (fun _ => ?_)
        simp only [Act.put, List.setIfInBounds_toArray, List.set_cons_zero, List.set_cons_succ]
        refine rel_val (.bool false) rfl rfl (fun w' _ => Eq.trans (show _ = Result.ok (Next.value (.bool (decide (v x.1 > v q)))) w' from rfl) (by rw [hcmp.out])) (fun _ => ?_)
        simp only [Act.put, List.setIfInBounds_toArray, List.set_cons_zero, List.set_cons_succ]
        refine rel_nil (fun w' inv => ?_)
        have M6 := inv.cls.1
        have B6 := inv.cls.2
        clear inv
        change wpListIn _ _ _ _ _ (_ :: []) _ _
        gi_wp2
        exact ⟨KeepsOthers.of_below B6, M5.same M6 5 5 rfl rfl, by show Mem w _ _; rw [hno.out]; exact M6⟩
  case done =>
    rintro D xs W5 hD rfl M5 hK
    rw [bestL_to (ins f g) v 100 (by omega), best_ins, HV.out] at M5
    have c4 := (M5.at 4 rfl).cell (i := 0) rfl
    gi_wp2
    refine ⟨by simp, .inl ⟨_, _, rfl, run_takeDeferred hK, ?_⟩⟩
    have M7 := M5.taken (o' := .deferred none) (Nat.le_trans hsz hD) hK rfl
    exact ⟨.tuple #[.int .i64 p, .nilIface], by simp [results, Tryd.results43, go_sem], rfl, M7.below⟩
  case stop =>
    rintro D c pre W5 hD _ h hK
    exact h.elim
end Go.Proofs.YtfchbdbfokpcdaaDoor
