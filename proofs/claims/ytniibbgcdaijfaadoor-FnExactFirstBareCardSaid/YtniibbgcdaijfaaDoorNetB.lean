/-
  Nets on a field: whether all of a net's cells are cells of the field; the set of its cells: the program's.
  The set of a net's cells: the program's, by its rows; the set as all numbers in the net, one after the other.
  fitFor: the closure that tells whether nets are valid for a field that is.
-/
import Derived.Test.YtniibbgcdaijfaaDoorNetA
import Derived.Test.YtniibbgcdaijfaaDoorSetB
import Derived.Test.YtniibbgcdaijfaaDoorRelC
import Derived.Test.YtniibbgcdaijfaaDoorRegM
import Derived.Test.YtniibbgcdaijfaaDoorPut
namespace Go.Proofs.YtniibbgcdaijfaaDoor
section
open Go Go.RowKit

/-- Each number of a net fits its kind. -/
structure WfN (a : Nat → Int) : Prop where
  b0 : -128 ≤ a 0 ∧ a 0 ≤ 127
  b1 : -128 ≤ a 1 ∧ a 1 ≤ 127
  b2 : -128 ≤ a 2 ∧ a 2 ≤ 127
  b3 : -128 ≤ a 3 ∧ a 3 ≤ 127
def netIn (f : Fd) (a : Nat → Int) : Bool := decide (1 ≤ a 2) && decide (1 ≤ a 3) && placeIn f (a 0) (a 1) && placeIn f (a 0 + a 2 - 1) (a 1 + a 3 - 1)
theorem load_i8 (b off : Nat) (n : Int) (w : World) (c : w.cell? ⟨b, off, none⟩ = some (.int .i8 n)) : (Instr.loadAt 22 (.pointer (some ⟨b, off, none⟩))).run Tryd.prog w = .ok (.int .i8 n) w := by
  simp [Instr.loadAt, go_sem, Tryd.underlying22, c]
set_option maxRecDepth 100000 in
set_option maxHeartbeats 2000000 in
theorem liesOn_any (f : Fd) (hf : f.Wf) (a : Nat → Int) (ha : WfN a) (w : World) : Calls Tryd.prog 82 #[vNet a, .agg (fcells f)] w fun e w' => e = .returned (.bool (netIn f a)) ∧ Below w.heap.size w w' := by
  obtain ⟨⟨x1, x2⟩, ⟨y1, y2⟩, ⟨u1, u2⟩, ⟨v1, v2⟩⟩ := ha
  go_enter Tryd.func82, Tryd.ntmps82
  go_upto_region 1 with (fail)
  obtain ⟨W, hW, M⟩ := open2 w #[.int .i8 (a 0), .int .i8 (a 1), .int .i8 (a 2), .int .i8 (a 3)] 56 (fcells f) 34
  rw [hW]; clear hW
  have c0 := (M.at 0 rfl).cell (i := 0) rfl
  have c1 := (M.at 0 rfl).cell (i := 1) rfl
  have c2 := (M.at 0 rfl).cell (i := 2) rfl
  have c3 := (M.at 0 rfl).cell (i := 3) rfl
  go_quiet (fail)
  go_upto_region 2 with (fail)
  go_quiet (fail)
  go_upto_region 3 with (fail)
  generalize hW2 : World.drewN _ _ = W2
  have MW : Mem w W2 [⟨w.heap.size, #[.int .i8 (a 0), .int .i8 (a 1), .int .i8 (a 2), .int .i8 (a 3)], 56⟩, ⟨w.heap.size + 1, fcells f, 34⟩] := by rw [← hW2]; exact (M.drewN _).drewN _
  clear hW2
  clear M c0 c1 c2 c3
  by_cases h2 : 1 ≤ a 2
  · by_cases h3 : 1 ≤ a 3
    · have ok1 : True := trivial
      cases hp : placeIn f (a 0) (a 1) with
      | false =>
        go_wp2_with (first
          | (go_at_call 84; refine (hasPlace_any f hf _ _ _).mono ?_; rintro e W3 ⟨rfl, hb⟩; have M3 := MW.call hb; rw [hp]; clear MW hb; go_wp2_with fail)
          | (refine wpList_load_wanted rfl 34 _ rfl (w.heap.size + 1) 0 rfl (fcells f) _ (MW.at 1 rfl).whole Tryd.underlying34 rfl (by rw [fcells_size]; exact sizeFd) ?_))
        go_ret
        exact ⟨by simp [netIn, h2, h3, hp], M3.below⟩
      | true =>
        go_wp2_with (first
          | (clear ok1; go_at_call 84; refine (hasPlace_any f hf _ _ _).mono ?_; rintro e W3 ⟨rfl, hb⟩; have M3 := MW.call hb; rw [hp]; clear MW hb; go_wp2_with (first
            | (go_at_call 84; refine (hasPlace_any f hf _ _ _).mono ?_; rintro e W4 ⟨rfl, hb⟩; have M4 := M3.call hb; clear M3 hb; go_wp2_with fail)
            | (refine wpList_load_wanted rfl 34 _ rfl (w.heap.size + 1) 0 rfl (fcells f) _ (M3.at 1 rfl).whole Tryd.underlying34 rfl (by rw [fcells_size]; exact sizeFd) ?_)))
          | (refine wpList_load_wanted rfl 34 _ rfl (w.heap.size + 1) 0 rfl (fcells f) _ (MW.at 1 rfl).whole Tryd.underlying34 rfl (by rw [fcells_size]; exact sizeFd) ?_))
        go_ret
        exact ⟨by simp [netIn, h2, h3, hp], M4.below⟩
    · have e3 : decide (1 ≤ a 3) = false := decide_eq_false (by omega)
      go_wp2_with fail
      go_ret
      exact ⟨by simp [netIn, e3], MW.below⟩
  · have e2 : decide (1 ≤ a 2) = false := decide_eq_false (by omega)
    go_wp2_with fail
    go_ret
    exact ⟨by simp [netIn, e2], MW.below⟩
end
section
open Go Go.RowKit

/-- A number in the rectangle X, Y, Wd, Hg. -/
def ins (X Y Wd Hg c : Nat) : Bool := decide (X ≤ c % 10) && decide (c % 10 < X + Wd) && decide (Y ≤ c / 10) && decide (c / 10 < Y + Hg)
def und (X Y Wd Hg : Nat) : Nat → Nat → Int
  | 0 => fun _ => 0
  | n + 1 => if ins X Y Wd Hg n = true then putC (und X Y Wd Hg n) n else und X Y Wd Hg n
section
variable {X Y Wd Hg : Nat}
theorem und_yes {n : Nat} (h : ins X Y Wd Hg n = true) : und X Y Wd Hg (n + 1) = putC (und X Y Wd Hg n) n := by rw [und, if_pos h]
theorem und_no {n : Nat} (h : ins X Y Wd Hg n = false) : und X Y Wd Hg (n + 1) = und X Y Wd Hg n := by rw [und, if_neg (by rw [h]; decide)]
theorem und_skip {a b : Nat} (hab : a ≤ b) (h : ∀ c, a ≤ c → c < b → ins X Y Wd Hg c = false) : und X Y Wd Hg b = und X Y Wd Hg a := by
  induction b with
  | zero => obtain rfl : a = 0 := by omega
            rfl
  | succ b ih =>
    by_cases e : a = b + 1
    · subst e; rfl
    · rw [und_no (h b (by omega) (by omega)), ih (by omega) (fun c h1 h2 => h c h1 (by omega))]
theorem ins_false {c : Nat} (h : c % 10 < X ∨ X + Wd ≤ c % 10 ∨ c / 10 < Y ∨ Y + Hg ≤ c / 10) : ins X Y Wd Hg c = false := by
  cases e : ins X Y Wd Hg c with
  | false => rfl
  | true => simp only [ins, Bool.and_eq_true, decide_eq_true_eq] at e; omega
theorem ins_true {c : Nat} (h : X ≤ c % 10 ∧ c % 10 < X + Wd ∧ Y ≤ c / 10 ∧ c / 10 < Y + Hg) : ins X Y Wd Hg c = true := by
  simp only [ins, Bool.and_eq_true, decide_eq_true_eq]; omega
theorem und_first : und X Y Wd Hg (10 * Y) = fun _ => 0 := by
  rw [und_skip (a := 0) (by omega) (fun c _ h2 => ins_false (by omega))]; rfl
theorem und_row (hX : X + Wd ≤ 10) (k : Nat) : und X Y Wd Hg (10 * (Y + k) + X) = und X Y Wd Hg (10 * (Y + k)) :=
  und_skip (by omega) (fun c h1 h2 => ins_false (by omega))
theorem und_row0 (hX : X + Wd ≤ 10) (k : Nat) : und X Y Wd Hg (10 * (Y + k) + X + 0) = und X Y Wd Hg (10 * (Y + k)) := und_row hX k
theorem und_first0 : und X Y Wd Hg (10 * (Y + 0)) = fun _ => 0 := und_first
theorem und_cell (hX : X + Wd ≤ 10) {k j : Nat} (hk : k < Hg) (hj : j < Wd) : und X Y Wd Hg (10 * (Y + k) + X + (j + 1)) = putC (und X Y Wd Hg (10 * (Y + k) + X + j)) (10 * (Y + k) + X + j) := by
  rw [show 10 * (Y + k) + X + (j + 1) = (10 * (Y + k) + X + j) + 1 by omega]
  exact und_yes (ins_true (by omega))
theorem und_next (hX : X + Wd ≤ 10) (k : Nat) : und X Y Wd Hg (10 * (Y + (k + 1))) = und X Y Wd Hg (10 * (Y + k) + X + Wd) :=
  und_skip (by omega) (fun c h1 h2 => ins_false (by omega))
theorem und_last (hY : Y + Hg ≤ 10) : und X Y Wd Hg 100 = und X Y Wd Hg (10 * (Y + Hg)) :=
  und_skip (by omega) (fun c h1 h2 => ins_false (by omega))
theorem und_N100 : ∀ n, n ≤ 100 → N100 (und X Y Wd Hg n)
  | 0, _ => zero_N100
  | n + 1, hn => by
    cases h : ins X Y Wd Hg n with
    | true => rw [und_yes h]; exact putC_N100 (und_N100 n (by omega)) (by omega)
    | false => rw [und_no h]; exact und_N100 n (by omega)
theorem hasC_und {j : Nat} (hj : j < 100) : ∀ n, n ≤ 100 → hasC (und X Y Wd Hg n) (j : Int) = (decide (j < n) && ins X Y Wd Hg j)
  | 0, _ => by rw [show und X Y Wd Hg 0 = fun _ => 0 from rfl, hasC_zero j hj]; simp
  | n + 1, hn => by
    have ih := hasC_und hj n (by omega)
    cases h : ins X Y Wd Hg n with
    | true =>
      rw [und_yes h, hasC_put (und_N100 n (by omega)).1 hj, ih]
      by_cases e : j = n
      · subst e; rw [h]; simp
      · rw [decide_eq_false e, Bool.or_false]
        congr 1
        rw [Bool.eq_iff_iff, decide_eq_true_eq, decide_eq_true_eq]; omega
    | false =>
      rw [und_no h, ih]
      by_cases e : j = n
      · subst e; rw [h]; simp
      · congr 1
        rw [Bool.eq_iff_iff, decide_eq_true_eq, decide_eq_true_eq]; omega
end
set_option maxRecDepth 100000 in
set_option maxHeartbeats 4000000 in
theorem netCells_nat (X Y Wd Hg : Nat) (hX : X + Wd ≤ 10) (hY : Y + Hg ≤ 10) (w : World) : Calls Tryd.prog 49 #[.agg #[.int .i8 (X : Int), .int .i8 (Y : Int), .int .i8 (Wd : Int), .int .i8 (Hg : Int)]] w fun e w' => e = .returned (.agg (acells .u64 2 (und X Y Wd Hg 100))) ∧ Below w.heap.size w w' := by
  go_enter Tryd.func49, Tryd.ntmps49
  go_upto_region 2 with (fail)
  rw [zero2]
  obtain ⟨W, hW, M⟩ := open3 w #[.int .i8 (X : Int), .int .i8 (Y : Int), .int .i8 (Wd : Int), .int .i8 (Hg : Int)] 56 (acells .u64 2 (fun _ => 0)) 38 (acells .u64 2 (fun _ => 0)) 38
  rw [hW]; clear hW
  have M0 : Hid (Mem w W [⟨w.heap.size, #[.int .i8 (X : Int), .int .i8 (Y : Int), .int .i8 (Wd : Int), .int .i8 (Hg : Int)], 56⟩, ⟨w.heap.size + 1, acells .u64 2 (fun _ => 0), 38⟩, ⟨w.heap.size + 1 + 1, acells .u64 2 (und X Y Wd Hg (10 * (Y + 0))), 38⟩]) := Lib.hid (by rw [und_first0]; exact M)
  have c3 := (M.at 0 rfl).cell (i := 3) rfl
  clear M
  go_wp2_with fail
  clear c3
  go_loopw [9] (fun i wr => ∃ k : Nat, k ≤ Hg ∧ i = .int .i64 k ∧ Hid (Mem w wr [⟨w.heap.size, #[.int .i8 (X : Int), .int .i8 (Y : Int), .int .i8 (Wd : Int), .int .i8 (Hg : Int)], 56⟩, ⟨w.heap.size + 1, acells .u64 2 (fun _ => 0), 38⟩, ⟨w.heap.size + 1 + 1, acells .u64 2 (und X Y Wd Hg (10 * (Y + k))), 38⟩])) (fun i _ => Hg - (intOf i).toNat)
  case atStart => exact ⟨0, Nat.zero_le _, rfl, M0⟩
  case round =>
    clear M0
    obtain ⟨k, hk, rfl, hM⟩ := hrel
    by_cases hlt : k < Hg
    · have c2 := (hM.out.at 0 rfl).cell (i := 2) rfl
      go_wp2_with fail
      clear c2
      go_loopw [15] (fun i wr => ∃ j : Nat, j ≤ Wd ∧ i = .int .i64 j ∧ Hid (Mem w wr [⟨w.heap.size, #[.int .i8 (X : Int), .int .i8 (Y : Int), .int .i8 (Wd : Int), .int .i8 (Hg : Int)], 56⟩, ⟨w.heap.size + 1, acells .u64 2 (fun _ => 0), 38⟩, ⟨w.heap.size + 1 + 1, acells .u64 2 (und X Y Wd Hg (10 * (Y + k) + X + j)), 38⟩])) (fun i _ => Wd - (intOf i).toNat)
      case atStart => exact ⟨0, Nat.zero_le _, rfl, by rw [und_row0 hX k]; exact hM⟩
      case round =>
        clear hM
        obtain ⟨j, hj, rfl, hM⟩ := hrel
        by_cases hlj : j < Wd
        · go_upto_region 8 with (fail)
          have hcell : Hid (und X Y Wd Hg (10 * (Y + k) + X + (j + 1)) = putC (und X Y Wd Hg (10 * (Y + k) + X + j)) (10 * (Y + k) + X + j)) := Lib.hid (und_cell hX hlt hlj)
          have hc100 : 10 * (Y + k) + X + j < 100 := by omega
          have ecell : ((X : Int) + j + 10 * ((Y : Int) + k)) = ((10 * (Y + k) + X + j : Nat) : Int) := by omega
          have eX : IntKind.i64.wrap (X : Int) = X := by rw [IntKind.wrap_i64]; omega
          have eY : IntKind.i64.wrap (Y : Int) = Y := by rw [IntKind.wrap_i64]; omega
          have eXj : IntKind.i64.wrap ((X : Int) + j) = (X : Int) + j := by rw [IntKind.wrap_i64]; omega
          have eYk : IntKind.i64.wrap ((Y : Int) + k) = (Y : Int) + k := by rw [IntKind.wrap_i64]; omega
          refine wp_region_rel_tail 13 (DL [dV (.agg (acells .u64 2 (und X Y Wd Hg (10 * (Y + k) + X + j)))), dV (.pointer (some ⟨w.heap.size, 0, none⟩)), dV (.int .i8 (X : Int)), dV (.int .i64 (X : Int)), dV (.int .i64 (j : Int)), dV (.int .i64 ((X : Int) + j)), dV (.pointer (some ⟨w.heap.size, 1, none⟩)), dV (.int .i8 (Y : Int)), dV (.int .i64 (Y : Int)), dV (.int .i64 (k : Int)), dV (.int .i64 ((Y : Int) + k)), dV (.int .i64 ((X : Int) + j + 10 * ((Y : Int) + k))), dV (.agg (acells .u64 2 (putC (und X Y Wd Hg (10 * (Y + k) + X + j)) (10 * (Y + k) + X + j))))]) (fun w' => Mem w w' [⟨w.heap.size, #[.int .i8 (X : Int), .int .i8 (Y : Int), .int .i8 (Wd : Int), .int .i8 (Hg : Int)], 56⟩, ⟨w.heap.size + 1, acells .u64 2 (fun _ => 0), 38⟩, ⟨w.heap.size + 1 + 1, acells .u64 2 (und X Y Wd Hg (10 * (Y + k) + X + j)), 38⟩]) (by kernel_rfl) (by kernel_rfl) grows_mem
            (stays_DL (fun d hd => by
              simp only [List.mem_cons, List.mem_nil_iff, or_false] at hd
              rcases hd with rfl | rfl | rfl | rfl | rfl | rfl | rfl | rfl | rfl | rfl | rfl | rfl | rfl <;> exact stay_V)) hM.out.drew ?_
          refine rel_load 38 _ rfl (w.heap.size + 1 + 1) 0 rfl (acells .u64 2 (und X Y Wd Hg (10 * (Y + k) + X + j))) _ rfl rfl (fun w' hw' => (hw'.at 2 rfl).whole) Tryd.underlying38 rfl (by rw [acells_size]; exact sizeC) (fun _ => ?_)
          simp only [Act.put, List.setIfInBounds_toArray, List.set_cons_zero, List.set_cons_succ]
          refine rel_val (.pointer (some ⟨w.heap.size, 0, none⟩)) rfl rfl (fun _ _ => rfl) (fun _ => ?_)
          simp only [Act.put, List.setIfInBounds_toArray, List.set_cons_zero, List.set_cons_succ]
          refine rel_cell 22 _ rfl w.heap.size 0 rfl (.int .i8 (X : Int)) rfl rfl (fun w' c => load_i8 _ _ _ w' c) (fun w' hw' => (hw'.at 0 rfl).cell (i := 0) rfl) (fun _ => ?_)
          simp only [Act.put, List.setIfInBounds_toArray, List.set_cons_zero, List.set_cons_succ]
          refine rel_val (.int .i64 (X : Int)) rfl rfl (fun w' _ => by simp [execOp, Act.eval, go_sem, Tryd.underlying22, Tryd.underlying2, eX]) (fun _ => ?_)
          simp only [Act.put, List.setIfInBounds_toArray, List.set_cons_zero, List.set_cons_succ]
          refine rel_val (.int .i64 (j : Int)) rfl rfl (fun _ _ => rfl) (fun _ => ?_)
          simp only [Act.put, List.setIfInBounds_toArray, List.set_cons_zero, List.set_cons_succ]
          refine rel_val (.int .i64 ((X : Int) + j)) rfl rfl (fun w' _ => by simp [execOp, Act.eval, go_sem, eXj]) (fun _ => ?_)
          simp only [Act.put, List.setIfInBounds_toArray, List.set_cons_zero, List.set_cons_succ]
          refine rel_val (.pointer (some ⟨w.heap.size, 1, none⟩)) rfl rfl (fun _ _ => rfl) (fun _ => ?_)
          simp only [Act.put, List.setIfInBounds_toArray, List.set_cons_zero, List.set_cons_succ]
          refine rel_cell 22 _ rfl w.heap.size 1 rfl (.int .i8 (Y : Int)) rfl rfl (fun w' c => load_i8 _ _ _ w' c) (fun w' hw' => (hw'.at 0 rfl).cell (i := 1) rfl) (fun _ => ?_)
          simp only [Act.put, List.setIfInBounds_toArray, List.set_cons_zero, List.set_cons_succ]
          refine rel_val (.int .i64 (Y : Int)) rfl rfl (fun w' _ => by simp [execOp, Act.eval, go_sem, Tryd.underlying22, Tryd.underlying2, eY]) (fun _ => ?_)
          simp only [Act.put, List.setIfInBounds_toArray, List.set_cons_zero, List.set_cons_succ]
          refine rel_val (.int .i64 (k : Int)) rfl rfl (fun _ _ => rfl) (fun _ => ?_)
          simp only [Act.put, List.setIfInBounds_toArray, List.set_cons_zero, List.set_cons_succ]
          refine rel_val (.int .i64 ((Y : Int) + k)) rfl rfl (fun w' _ => by simp [execOp, Act.eval, go_sem, eYk]) (fun _ => ?_)
          simp only [Act.put, List.setIfInBounds_toArray, List.set_cons_zero, List.set_cons_succ]
          refine rel_call (.int .i64 ((X : Int) + j + 10 * ((Y : Int) + k))) 73 #[.int .i64 ((X : Int) + j), .int .i64 ((Y : Int) + k)] rfl rfl rfl rfl (enters_of Tryd.func73 (by kernel_rfl) rfl) (fun w' _ => (cellAt_any _ _ (by omega) (by omega) w').mono (fun e w2 h => ⟨h.1, by rw [h.2]; exact Below.refl _ _⟩)) (fun _ => ?_)
          simp only [Act.put, List.setIfInBounds_toArray, List.set_cons_zero, List.set_cons_succ]
          refine rel_call (.agg (acells .u64 2 (putC (und X Y Wd Hg (10 * (Y + k) + X + j)) (10 * (Y + k) + X + j)))) 72 #[.agg (acells .u64 2 (und X Y Wd Hg (10 * (Y + k) + X + j))), .int .i64 ((X : Int) + j + 10 * ((Y : Int) + k))] rfl rfl rfl rfl (enters_of Tryd.func72 (by kernel_rfl) rfl) (fun w' _ => by rw [ecell]; exact withCell_any (und X Y Wd Hg (10 * (Y + k) + X + j)) _ hc100 w') (fun _ => ?_)
          simp only [Act.put, List.setIfInBounds_toArray, List.set_cons_zero, List.set_cons_succ]
          refine rel_nil (fun W5 inv => ?_)
          have M5 := inv.cls
          clear inv
          change wpList _ _ _ (_ :: []) _ _
          refine wpList_store_row rfl 38 _ _ rfl (w.heap.size + 1 + 1) (acells .u64 2 (putC (und X Y Wd Hg (10 * (Y + k) + X + j)) (10 * (Y + k) + X + j))) rfl rfl 38 _ (M5.at 2 rfl) (by rw [acells_size]; exact sizeC) (by simp only [acells_size]) (acells_one _ _ _) ?_
          go_wp2_with fail
          have M6 := M5.row 2 rfl (acells .u64 2 (putC (und X Y Wd Hg (10 * (Y + k) + X + j)) (10 * (Y + k) + X + j)))
          go_roundw
          case rel => exact ⟨j + 1, by omega, by go_num, by rw [hcell.out]; exact Lib.hid M6⟩
          case measure => simp [intOf]; omega
        · obtain rfl : j = Wd := by omega
          go_wp2_with fail
          go_roundw
          case rel => exact ⟨k + 1, by omega, by go_num, by rw [und_next hX k]; exact hM⟩
          case measure => simp [intOf]; omega
    · obtain rfl : k = Hg := by omega
      have M9 := hM.out
      rw [← und_last hY] at M9
      go_wp2_with (first
        | (refine wpList_load_part rfl 38 _ rfl (w.heap.size + 1 + 1) 0 rfl (acells .u64 2 (und X Y Wd k 100)) _ (M9.at 2 rfl).whole Tryd.underlying38 rfl (by rw [acells_size]; exact sizeC) ?_)
        | (refine wpList_store_row rfl 38 _ _ rfl (w.heap.size + 1) (acells .u64 2 (und X Y Wd k 100)) rfl rfl 38 _ (M9.at 1 rfl) (by rw [acells_size]; exact sizeC) (by simp only [acells_size]) (acells_one _ _ _) ?_))
      have M10 := M9.row 1 rfl (acells .u64 2 (und X Y Wd k 100))
      exact bodyPost_ret (results_cell_row rfl _ _ (w.heap.size + 1) 38 _ _ _ rfl (M10.at 1 rfl) Tryd.underlying38 rfl (by rw [acells_size]; exact sizeC)) rfl ⟨rfl, M10.below⟩
end
section
open Go Go.RowKit

structure NetFits (a : Nat → Int) : Prop where
  x0 : 0 ≤ a 0
  y0 : 0 ≤ a 1
  w1 : 1 ≤ a 2
  h1 : 1 ≤ a 3
  x2 : a 0 + a 2 ≤ 10
  y2 : a 1 + a 3 ≤ 10
def insA (a : Nat → Int) (c : Nat) : Bool := ins (a 0).toNat (a 1).toNat (a 2).toNat (a 3).toNat c
def undA (a : Nat → Int) : Nat → Int := und (a 0).toNat (a 1).toNat (a 2).toNat (a 3).toNat 100
theorem undA_N100 (a : Nat → Int) : N100 (undA a) := und_N100 100 (Nat.le_refl _)
theorem hasC_undA (a : Nat → Int) {j : Nat} (hj : j < 100) : hasC (undA a) (j : Int) = insA a j := by
  unfold undA insA
  rw [hasC_und hj 100 (Nat.le_refl _), decide_eq_true hj, Bool.true_and]
theorem netIn_fits {f : Fd} {a : Nat → Int} (hW : f.W ≤ 10) (hH : f.H ≤ 10) (h : netIn f a = true) : NetFits a := by
  simp only [netIn, placeIn, Bool.and_eq_true, decide_eq_true_eq] at h
  constructor <;> omega
/-- A net's cells are cells of the field. -/
theorem insA_cell {f : Fd} {a : Nat → Int} (hW : f.W ≤ 10) (hH : f.H ≤ 10) (h : netIn f a = true) {c : Nat} (hc : c < 100) (hi : insA a c = true) : isCell f c = true := by
  simp only [netIn, placeIn, Bool.and_eq_true, decide_eq_true_eq] at h
  simp only [insA, ins, Bool.and_eq_true, decide_eq_true_eq] at hi
  simp only [isCell, inB, Bool.and_eq_true, decide_eq_true_eq]
  omega
theorem netCells_any (a : Nat → Int) (h : NetFits a) (w : World) : Calls Tryd.prog 49 #[vNet a] w fun e w' => e = .returned (.agg (acells .u64 2 (undA a))) ∧ Below w.heap.size w w' := by
  obtain ⟨x0, y0, w1, h1, x2, y2⟩ := h
  obtain ⟨X, hX⟩ : ∃ X : Nat, a 0 = X := ⟨(a 0).toNat, by omega⟩
  obtain ⟨Y, hY⟩ : ∃ Y : Nat, a 1 = Y := ⟨(a 1).toNat, by omega⟩
  obtain ⟨Wd, hWd⟩ : ∃ Wd : Nat, a 2 = Wd := ⟨(a 2).toNat, by omega⟩
  obtain ⟨Hg, hHg⟩ : ∃ Hg : Nat, a 3 = Hg := ⟨(a 3).toNat, by omega⟩
  have e : undA a = und X Y Wd Hg 100 := by unfold undA; rw [hX, hY, hWd, hHg]; rfl
  show Calls _ _ #[.agg #[.int .i8 (a 0), .int .i8 (a 1), .int .i8 (a 2), .int .i8 (a 3)]] w _
  rw [e, hX, hY, hWd, hHg]
  exact netCells_nat X Y Wd Hg (by omega) (by omega) w
def treeQ (f : Fd) (k : Nat) : Bool := f.K k == 3
def treeSet (f : Fd) : Nat → Int := wantSet f (treeQ f) 100
def treeFree (f : Fd) (a : Nat → Int) : Bool := allTo 100 (fun i => !(insA a i && treeQ f i))
def netOk (f : Fd) (a : Nat → Int) : Bool := netIn f a && treeFree f a
theorem fits_iff {f : Fd} {a : Nat → Int} (hW : f.W ≤ 10) (hH : f.H ≤ 10) (h : netIn f a = true) : treeFree f a = true ↔ (joinC .and (undA a) (treeSet f) 0 = 0 ∧ joinC .and (undA a) (treeSet f) 1 = 0) := by
  unfold treeFree treeSet
  rw [meet_zero (undA_N100 a) (want_u64 f _ 100)]
  rw [allTo_iff]
  constructor
  · intro hall j hj
    have h1 := hall j hj
    rw [hasC_undA a hj, hasC_want f _ hj 100, decide_eq_true hj, Bool.true_and]
    cases hi : insA a j with
    | false => simp
    | true => rw [hi] at h1; simp only [Bool.true_and, Bool.not_eq_true'] at h1; rw [h1]; simp
  · intro hall j hj
    have h1 := hall j hj
    rw [hasC_undA a hj, hasC_want f _ hj 100, decide_eq_true hj, Bool.true_and] at h1
    cases hi : insA a j with
    | false => simp
    | true => rw [hi, insA_cell hW hH h hj hi] at h1; simp only [Bool.true_and] at h1; rw [h1]; rfl
set_option maxRecDepth 100000 in
theorem tree_closure (f : Fd) (hf : f.Wf) (b0 : Nat) (k : Nat) (hk : k < 100) (w : World) (B : Blk w b0 (fcells f) 34) : Calls Tryd.prog 80 #[.int .i64 k, .pointer (some ⟨b0, 0, none⟩)] w fun e w' => e = .returned (.bool (treeQ f k)) ∧ Below w.heap.size w w' := by
  have c0 := B.cell (fcells_K f k hk)
  obtain ⟨hb1, hb2⟩ := hf.K k hk
  have e : (f.K k == 3) = treeQ f k := rfl
  go_enter Tryd.func80, Tryd.ntmps80
  go_wp2_with fail
  go_ret
  exact ⟨by unfold treeQ; simp, Below.refl _ _⟩
set_option maxRecDepth 100000 in
set_option maxHeartbeats 4000000 in
theorem fit_closure (f : Fd) (hf : f.Wf) (hW : f.W ≤ 10) (hH : f.H ≤ 10) (a : Nat → Int) (ha : WfN a) (b0 b1 : Nat) (w : World) (B0 : Blk w b0 (fcells f) 34) (B1 : Blk w b1 (acells .u64 2 (treeSet f)) 38) :
    Calls Tryd.prog 81 #[vNet a, .pointer (some ⟨b0, 0, none⟩), .pointer (some ⟨b1, 0, none⟩)] w fun e w' => e = .returned (.bool (netOk f a)) ∧ Below w.heap.size w w' := by
  have HB0 := Lib.hid B0
  have HB1 := Lib.hid B1
  clear B0 B1
  cases hn : netIn f a with
  | false =>
    go_enter Tryd.func81, Tryd.ntmps81
    go_upto_region 1 with (fail)
    obtain ⟨W, hW', M⟩ := open1 w #[.int .i8 (a 0), .int .i8 (a 1), .int .i8 (a 2), .int .i8 (a 3)] 56
    rw [hW']; clear hW'
    refine wp_region_rel (DL [dV (vNet a), dV (.agg (fcells f)), dV (.bool false), dV (.bool false), dV (.bool false), dV (.bool false), dV (.bool false), dV (.bool false), dV (.bool false), dV (.bool false), dV (.bool false), dV (.bool false)]) (fun w' => Mem w w' [⟨w.heap.size, #[.int .i8 (a 0), .int .i8 (a 1), .int .i8 (a 2), .int .i8 (a 3)], 56⟩]) (by kernel_rfl) (by kernel_rfl) grows_mem
      (stays_DL (fun d hd => by
        simp only [List.mem_cons, List.mem_nil_iff, or_false] at hd
        rcases hd with rfl | rfl | rfl | rfl | rfl | rfl | rfl | rfl | rfl | rfl | rfl | rfl <;> exact stay_V)) M.drew ?_
    refine rel_load 56 _ rfl w.heap.size 0 rfl #[.int .i8 (a 0), .int .i8 (a 1), .int .i8 (a 2), .int .i8 (a 3)] _ rfl rfl (fun w' hw' => (hw'.at 0 rfl).whole) Tryd.underlying56 rfl (by kernel_rfl) (fun _ => ?_)
    simp only [Act.put, List.setIfInBounds_toArray, List.set_cons_zero, List.set_cons_succ]
    refine rel_load 34 _ rfl b0 0 rfl (fcells f) _ rfl rfl (fun w' hw' => (HB0.out.later hw'.below).whole) Tryd.underlying34 rfl (by rw [fcells_size]; exact sizeFd) (fun _ => ?_)
    simp only [Act.put, List.setIfInBounds_toArray, List.set_cons_zero, List.set_cons_succ]
    refine rel_call (.bool false) 82 #[vNet a, .agg (fcells f)] rfl rfl rfl rfl (enters_of Tryd.func82 (by kernel_rfl) rfl) (fun w' _ => by rw [← hn]; exact liesOn_any f hf a ha w') (fun _ => ?_)
    simp only [Act.put, List.setIfInBounds_toArray, List.set_cons_zero, List.set_cons_succ]
    refine rel_val (.bool false) rfl rfl (fun _ _ => rfl) (fun _ => ?_)
    simp only [Act.put, List.setIfInBounds_toArray, List.set_cons_zero, List.set_cons_succ]
    refine rel_skip rfl ?_
    simp only [Act.put, List.setIfInBounds_toArray, List.set_cons_zero, List.set_cons_succ]
    refine rel_skip rfl ?_
    simp only [Act.put, List.setIfInBounds_toArray, List.set_cons_zero, List.set_cons_succ]
    refine rel_skip rfl ?_
    simp only [Act.put, List.setIfInBounds_toArray, List.set_cons_zero, List.set_cons_succ]
    refine rel_skip rfl ?_
    simp only [Act.put, List.setIfInBounds_toArray, List.set_cons_zero, List.set_cons_succ]
    refine rel_skip rfl ?_
    simp only [Act.put, List.setIfInBounds_toArray, List.set_cons_zero, List.set_cons_succ]
    refine rel_skip rfl ?_
    simp only [Act.put, List.setIfInBounds_toArray, List.set_cons_zero, List.set_cons_succ]
    refine rel_val (.bool false) rfl rfl (fun _ _ => rfl) (fun _ => ?_)
    simp only [Act.put, List.setIfInBounds_toArray, List.set_cons_zero, List.set_cons_succ]
    refine rel_val (.bool false) rfl rfl (fun _ _ => rfl) (fun _ => ?_)
    simp only [Act.put, List.setIfInBounds_toArray, List.set_cons_zero, List.set_cons_succ]
    refine rel_nil (fun w' inv => ?_)
    have M2 := inv.cls
    clear inv
    go_wp2_with fail
    go_ret
    exact ⟨by simp [netOk, hn], M2.below⟩
  | true =>
    have hfit := netIn_fits hW hH hn
    have hN : N100 (joinC .and (undA a) (treeSet f)) := and_N100 (undA_N100 a) (want_u64 f _ 100)
    obtain ⟨q, hqe⟩ : ∃ q, treeFree f a = q := ⟨_, rfl⟩
    have hq : q = true ↔ (joinC .and (undA a) (treeSet f) 0 = 0 ∧ joinC .and (undA a) (treeSet f) 1 = 0) := by rw [← hqe]; exact fits_iff hW hH hn
    have hres : Hid (netOk f a = q) := Lib.hid (by unfold netOk; rw [hn, hqe]; rfl)
    clear hqe
    generalize treeSet f = T at HB1 hN hq
    go_enter Tryd.func81, Tryd.ntmps81
    go_upto_region 1 with (fail)
    obtain ⟨W, hW', M⟩ := open1 w #[.int .i8 (a 0), .int .i8 (a 1), .int .i8 (a 2), .int .i8 (a 3)] 56
    rw [hW']; clear hW'
    refine wp_region_rel (DL [dV (vNet a), dV (.agg (fcells f)), dV (.bool true), dV (.bool true), dV (vNet a), dV (.agg (acells .u64 2 (undA a))), dV (.agg (acells .u64 2 T)), dV (.agg (acells .u64 2 (opC .and (undA a) T))), dV (.agg (acells .u64 2 (fun _ => 0))), dV (.bool q), dV (.bool q), dV (.bool q)]) (fun w' => Mem w w' [⟨w.heap.size, #[.int .i8 (a 0), .int .i8 (a 1), .int .i8 (a 2), .int .i8 (a 3)], 56⟩]) (by kernel_rfl) (by kernel_rfl) grows_mem
      (stays_DL (fun d hd => by
        simp only [List.mem_cons, List.mem_nil_iff, or_false] at hd
        rcases hd with rfl | rfl | rfl | rfl | rfl | rfl | rfl | rfl | rfl | rfl | rfl | rfl <;> exact stay_V)) M.drew ?_
    refine rel_load 56 _ rfl w.heap.size 0 rfl #[.int .i8 (a 0), .int .i8 (a 1), .int .i8 (a 2), .int .i8 (a 3)] _ rfl rfl (fun w' hw' => (hw'.at 0 rfl).whole) Tryd.underlying56 rfl (by kernel_rfl) (fun _ => ?_)
    simp only [Act.put, List.setIfInBounds_toArray, List.set_cons_zero, List.set_cons_succ]
    refine rel_load 34 _ rfl b0 0 rfl (fcells f) _ rfl rfl (fun w' hw' => (HB0.out.later hw'.below).whole) Tryd.underlying34 rfl (by rw [fcells_size]; exact sizeFd) (fun _ => ?_)
    simp only [Act.put, List.setIfInBounds_toArray, List.set_cons_zero, List.set_cons_succ]
    refine rel_call (.bool true) 82 #[vNet a, .agg (fcells f)] rfl rfl rfl rfl (enters_of Tryd.func82 (by kernel_rfl) rfl) (fun w' _ => by rw [← hn]; exact liesOn_any f hf a ha w') (fun _ => ?_)
    simp only [Act.put, List.setIfInBounds_toArray, List.set_cons_zero, List.set_cons_succ]
    refine rel_val (.bool true) rfl rfl (fun _ _ => rfl) (fun _ => ?_)
    simp only [Act.put, List.setIfInBounds_toArray, List.set_cons_zero, List.set_cons_succ]
    refine rel_load 56 _ rfl w.heap.size 0 rfl #[.int .i8 (a 0), .int .i8 (a 1), .int .i8 (a 2), .int .i8 (a 3)] _ rfl rfl (fun w' hw' => (hw'.at 0 rfl).whole) Tryd.underlying56 rfl (by kernel_rfl) (fun _ => ?_)
    simp only [Act.put, List.setIfInBounds_toArray, List.set_cons_zero, List.set_cons_succ]
    refine rel_call (.agg (acells .u64 2 (undA a))) 49 #[vNet a] rfl rfl rfl rfl (enters_of Tryd.func49 (by kernel_rfl) rfl) (fun w' _ => netCells_any a hfit w') (fun _ => ?_)
    simp only [Act.put, List.setIfInBounds_toArray, List.set_cons_zero, List.set_cons_succ]
    refine rel_load 38 _ rfl b1 0 rfl (acells .u64 2 T) _ rfl rfl (fun w' hw' => (HB1.out.later hw'.below).whole) Tryd.underlying38 rfl (by rw [acells_size]; exact sizeC) (fun _ => ?_)
    simp only [Act.put, List.setIfInBounds_toArray, List.set_cons_zero, List.set_cons_succ]
    refine rel_call (.agg (acells .u64 2 (opC .and (undA a) T))) 31 #[.agg (acells .u64 2 (undA a)), .agg (acells .u64 2 T)] rfl rfl rfl rfl (enters_of Tryd.func31 (by kernel_rfl) rfl) (fun w' _ => implBothOf (undA a) T w') (fun _ => ?_)
    simp only [Act.put, List.setIfInBounds_toArray, List.set_cons_zero, List.set_cons_succ]
    refine rel_val (.agg (acells .u64 2 (fun _ => 0))) rfl rfl (fun w' _ => by kernel_rfl) (fun _ => ?_)
    simp only [Act.put, List.setIfInBounds_toArray, List.set_cons_zero, List.set_cons_succ]
    refine rel_eql 38 _ _ _ rfl (acells .u64 2 (opC .and (undA a) T)) (acells .u64 2 (fun _ => 0)) rfl rfl _ rfl rfl (by kernel_rfl) (fun w' => by rw [opC_join hN]; exact run_eqC _ _ hN.1 zero_N100.1 q hq w') (fun _ => ?_)
    simp only [Act.put, List.setIfInBounds_toArray, List.set_cons_zero, List.set_cons_succ]
    refine rel_val (.bool q) rfl rfl (fun _ _ => rfl) (fun _ => ?_)
    simp only [Act.put, List.setIfInBounds_toArray, List.set_cons_zero, List.set_cons_succ]
    refine rel_val (.bool q) rfl rfl (fun _ _ => rfl) (fun _ => ?_)
    simp only [Act.put, List.setIfInBounds_toArray, List.set_cons_zero, List.set_cons_succ]
    refine rel_nil (fun w' inv => ?_)
    have M2 := inv.cls
    clear inv
    go_wp2_with fail
    go_ret
    exact ⟨by rw [hres.out]; rfl, M2.below⟩
set_option maxRecDepth 100000 in
set_option maxHeartbeats 2000000 in
theorem fitFor_any (f : Fd) (hf : f.Wf) (hok : okF f = true) (w : World) : Calls Tryd.prog 60 #[.agg (fcells f)] w fun e w' => ∃ b0 b1, e = .returned (.func (.func 81) #[] #[.pointer (some ⟨b0, 0, none⟩), .pointer (some ⟨b1, 0, none⟩)]) ∧
    w.heap.size ≤ b0 ∧ w.heap.size ≤ b1 ∧ Blk w' b0 (fcells f) 34 ∧ Blk w' b1 (acells .u64 2 (treeSet f)) 38 ∧ Below w.heap.size w w' := by
  go_enter Tryd.func60, Tryd.ntmps60
  go_upto_region 1 with (fail)
  obtain ⟨W, hW, M⟩ := open1 w (fcells f) 34
  rw [hW]; clear hW
  go_upto_region 2 with (first
    | (refine wpList_load_part rfl 34 _ rfl w.heap.size 0 rfl (fcells f) _ (M.at 0 rfl).whole Tryd.underlying34 rfl (by rw [fcells_size]; exact sizeFd) ?_)
    | (go_at_call 79; refine (cellsWhere_any f hok 80 #[.pointer (some ⟨w.heap.size, 0, none⟩)] (treeQ f) (fun w' => Blk w' w.heap.size (fcells f) 34) (fun _ _ h hb => h.later hb) (fun k w' hk he => tree_closure f hf w.heap.size k (isCell_lt hk) w' he) _ (M.at 0 rfl) (enters_of Tryd.func80 (by kernel_rfl) rfl)).mono ?_; rintro e W2 ⟨rfl, hb⟩; have M2 := M.call hb; have M3 := M2.alloc #[.int .u64 0, .int .u64 0] 38)
    | (refine wpList_store_row rfl 38 _ _ rfl W2.heap.size (acells .u64 2 (wantSet f (treeQ f) 100)) rfl rfl 38 _ (M3.at 1 rfl) (by rw [acells_size]; exact sizeC) (by rw [acells_size]; rfl) (acells_one _ _ _) ?_))
  have M4 := M3.row 1 rfl (acells .u64 2 (wantSet f (treeQ f) 100))
  have hs := M2.below.size
  go_wp2_with fail
  go_ret
  exact ⟨w.heap.size, W2.heap.size, rfl, Nat.le_refl _, hs, M4.at 0 rfl, M4.at 1 rfl, M4.below⟩
end
end Go.Proofs.YtniibbgcdaijfaaDoor
