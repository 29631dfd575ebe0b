/-
  The model's validity of scarecrows.
-/
import Derived.Test.YteclngooblafoaaDoorScrEq
import Derived.Test.YteclngooblafoaaDoorCoreA
import Derived.Test.YteclngooblafoaaDoorCoreD
import Derived.RangeFuncNested
import Derived.OpenShut
import Derived.Shelf.Abstract
namespace Go.Proofs.YteclngooblafoaaDoor
open Go Go.RowKit Go.WideShapes Go.ChangeShapes

/-- A scarecrow's numbers are as told. -/
def shapeOk (a : Nat → Int) : Bool := inB (a 0) 0 99 && inB (a 1) 1 1000 && inB (a 2) 0 30
/-- None of the first k stands in this cell. -/
def freeAt (F : Nat → Nat → Int) (k : Nat) (c : Int) : Bool := allTo k (fun j => F j 0 != c)
def standsOk (f : Fd) (c : Int) : Bool := isCell f c && f.K c.toNat != 3
def scareOk (f : Fd) (F : Nat → Nat → Int) (i : Nat) : Bool := shapeOk (F i) && standsOk f (F i 0) && freeAt F i (F i 0)
def okScares (f : Fd) (n : Nat) (F : Nat → Nat → Int) : Bool := okF f && allTo n (fun i => scareOk f F i) && decide (n ≤ 20)
/-- Each number fits its kind. -/
structure WfT (a : Nat → Int) : Prop where
  b0 : -32768 ≤ a 0 ∧ a 0 ≤ 32767
  b1 : -32768 ≤ a 1 ∧ a 1 ≤ 32767
  b2 : -128 ≤ a 2 ∧ a 2 ≤ 127
theorem wfT_row {n : Nat} {F : Nat → Nat → Int} (h : WfS ksScarecrow n F) {i : Nat} (hi : i < n) : WfT (F i) :=
  ⟨bounds_i16 (h i hi 0 (by decide)), bounds_i16 (h i hi 1 (by decide)), bounds_i8 (h i hi 2 (by decide))⟩
/-- A scarecrow's three cells. -/
structure ScrAt (w : World) (b o : Nat) (a : Nat → Int) : Prop where
  c0 : w.cell? ⟨b, o, none⟩ = some (.int .i16 (a 0))
  c1 : w.cell? ⟨b, o + 1, none⟩ = some (.int .i16 (a 1))
  c2 : w.cell? ⟨b, o + 2, none⟩ = some (.int .i8 (a 2))
theorem scrAt_of {w : World} {b o : Nat} {F : Nat → Nat → Int} {i : Nat} (h : w.rangeAt b o (srow ksScarecrow F i).toList) : ScrAt w b o (F i) :=
  ⟨h 0 _ rfl, h 1 _ rfl, h 2 _ rfl⟩
/-- A row of truth values. -/
def bcells (n : Nat) (g : Nat → Bool) : Array Value := ((List.range n).map fun i => Value.bool (g i)).toArray
theorem bcells_size (n : Nat) (g : Nat → Bool) : (bcells n g).size = n := by simp [bcells]
theorem bcells_get (n : Nat) (g : Nat → Bool) (i : Nat) (h : i < n) : (bcells n g)[i]? = some (.bool (g i)) := by simp [bcells, h]
theorem bcells_one (n : Nat) (g : Nat → Bool) : (bcells n g).all (·.oneCell') = true := by
  rw [Array.all_eq_true_iff_forall_mem]; intro v hv; simp [bcells] at hv; obtain ⟨i, _, rfl⟩ := hv; rfl
theorem bcells_ext {n : Nat} {g : Nat → Bool} {cs : Array Value} (hs : cs.size = n) (h : ∀ i, i < n → cs[i]? = some (.bool (g i))) : cs = bcells n g := by
  apply Array.ext_getElem?
  intro i
  by_cases hi : i < n
  · rw [h i hi, bcells_get n g i hi]
  · rw [Array.getElem?_eq_none (by omega), Array.getElem?_eq_none (by rw [bcells_size]; omega)]
theorem bcells_congr {n : Nat} {g h : Nat → Bool} (e : ∀ i, i < n → g i = h i) : bcells n g = bcells n h := bcells_ext (bcells_size n g) (fun i hi => by rw [bcells_get n g i hi, e i hi])
theorem bcells_set (n : Nat) (g : Nat → Bool) (k : Nat) (v : Bool) (hk : k < n) : (bcells n g).setIfInBounds k (.bool v) = bcells n (fun i => if i = k then v else g i) :=
  bcells_ext (by simp [bcells_size]) (fun i hi => by
    rw [Array.getElem?_setIfInBounds]
    by_cases e : k = i
    · subst e; simp [bcells_size, hk]
    · rw [if_neg e, bcells_get n g i hi, if_neg (fun x => e x.symm)])
theorem zeroB : Tryd.zeroCells115 = bcells 100 (fun _ => false) := by kernel_rfl
theorem zrunB (w : World) : (zeroValue 115).run Tryd.prog w = .ok (.agg Tryd.zeroCells115) w := zero_run (by kernel_rfl) w
theorem sizeB : (Tryd.prog.info? 115).map (·.size) = some 100 := by kernel_rfl
theorem Mem.fst {w0 w : World} {e1 e2 : Ent} (H : Mem w0 w [e1, e2]) : Mem w0 w [e1] :=
  ⟨H.below, fun i e h => H.blk i e (by
    cases i with
    | zero => simpa using h
    | succ i => simp at h), fun i j e e' h h' hij => by
    cases i <;> cases j <;> simp_all⟩
theorem load_bool (b off : Nat) (v : Bool) (w : World) (c : w.cell? ⟨b, off, none⟩ = some (.bool v)) : (Instr.loadAt 4 (.pointer (some ⟨b, off, none⟩))).run Tryd.prog w = .ok (.bool v) w := by
  simp [go_sem, c]
theorem load_u8 (b off : Nat) (n : Int) (w : World) (c : w.cell? ⟨b, off, none⟩ = some (.int .u8 n)) : (Instr.loadAt 5 (.pointer (some ⟨b, off, none⟩))).run Tryd.prog w = .ok (.int .u8 n) w := by
  simp [go_sem, c]
theorem freeAt_zero (F : Nat → Nat → Int) (c : Int) : freeAt F 0 c = true := by simp [freeAt, allTo]
theorem freeAt_succ (F : Nat → Nat → Int) (k : Nat) (c : Int) : freeAt F (k + 1) c = (freeAt F k c && F k 0 != c) := by
  rw [Bool.eq_iff_iff]
  simp only [freeAt, Bool.and_eq_true, allTo_iff]
  constructor
  · intro h; exact ⟨fun i hi => h i (by omega), h k (by omega)⟩
  · rintro ⟨h1, h2⟩ i hi
    by_cases e : i = k
    · subst e; exact h2
    · exact h1 i (by omega)

set_option maxRecDepth 100000 in
set_option maxHeartbeats 1000000 in
theorem l03Shape_any (a : Nat → Int) (ha : WfT a) (w : World) : Calls Tryd.prog 75 #[vScarecrow a] w fun e w' => e = .returned (.bool (shapeOk a)) ∧ Below w.heap.size w w' := by
  obtain ⟨⟨a01, a02⟩, ⟨a11, a12⟩, ⟨a21, a22⟩⟩ := ha
  cases q1 : inB (a 0) 0 99 with
  | false =>
    have hr : shapeOk a = false := by simp [shapeOk, q1]
    rw [hr]; clear hr
    go_enter Tryd.func75, Tryd.ntmps75
    go_wp2_with (go_at_call 43; refine (l00In_any _ _ _ _).mono ?_; rintro e w' ⟨rfl, rfl⟩; first | rw [q1])
    go_ret
    exact ⟨rfl, (Below.refl _ _).alloc (Nat.le_refl _) _⟩
  | true =>
    cases q2 : inB (a 1) 1 1000 with
    | false =>
      have hr : shapeOk a = false := by simp [shapeOk, q1, q2]
      rw [hr]; clear hr
      go_enter Tryd.func75, Tryd.ntmps75
      go_wp2_with (go_at_call 43; refine (l00In_any _ _ _ _).mono ?_; rintro e w' ⟨rfl, rfl⟩; first | rw [q1] | rw [q2])
      go_ret
      exact ⟨rfl, (Below.refl _ _).alloc (Nat.le_refl _) _⟩
    | true =>
      have hr : shapeOk a = inB (a 2) 0 30 := by simp [shapeOk, q1, q2]
      rw [hr]; clear hr
      go_enter Tryd.func75, Tryd.ntmps75
      go_wp2_with (go_at_call 43; refine (l00In_any _ _ _ _).mono ?_; rintro e w' ⟨rfl, rfl⟩; first | rw [q1] | rw [q2] | skip)
      go_ret
      exact ⟨rfl, (Below.refl _ _).alloc (Nat.le_refl _) _⟩

set_option maxRecDepth 100000 in
set_option maxHeartbeats 4000000 in
theorem l03Ok_any (f : Fd) (hf : f.Wf) (n : Nat) (hn : n ≤ 2 ^ 40) (F : Nat → Nat → Int) (hF : WfS ksScarecrow n F) (b d c : Nat) (w : World) (B : Blk w b (fcells f) 33) (I : InS w d 0 n ksScarecrow F) :
    Calls Tryd.prog 60 #[.pointer (some ⟨b, 0, none⟩), .slice (some ⟨d, 0, none⟩) n c] w fun e w' => e = .returned (.bool (okScares f n F)) ∧ Below w.heap.size w w' := by
  have HB := Lib.hid B
  have HI := Lib.hid I
  have HF := Lib.hid hF
  clear B I hF
  cases hok : okF f with
  | false =>
    have hr : okScares f n F = false := by simp [okScares, hok]
    rw [hr]; clear hr
    go_enter Tryd.func60, Tryd.ntmps60
    go_wp2_with (go_at_call 41; refine (l01Ok_any f hf b _ HB.out).mono ?_; rintro e w' ⟨rfl, rfl⟩; rw [hok])
    go_ret
    exact ⟨rfl, Below.refl _ _⟩
  | true =>
    by_cases h20 : 20 < n
    · have hr : okScares f n F = false := by simp [okScares]; omega
      rw [hr]; clear hr
      go_enter Tryd.func60, Tryd.ntmps60
      go_wp2_with (go_at_call 41; refine (l01Ok_any f hf b _ HB.out).mono ?_; rintro e w' ⟨rfl, rfl⟩; rw [hok])
      go_ret
      exact ⟨rfl, Below.refl _ _⟩
    · have hr : okScares f n F = allTo n (fun i => scareOk f F i) := by simp [okScares, hok]; omega
      rw [hr]; clear hr
      go_enter Tryd.func60, Tryd.ntmps60
      have hz : Hid (Tryd.zeroCells115.size = 100) := Lib.hid (by rw [zeroB, bcells_size])
      have hz1 : Hid (Tryd.zeroCells115.all (·.oneCell') = true) := Lib.hid (by rw [zeroB]; exact bcells_one _ _)
      have M0 := (Mem.nil w).alloc Tryd.zeroCells115 115
      have M1 := M0.row 0 rfl Tryd.zeroCells115
      go_upto_region 4 with (first
        | (go_at_call 41; refine (l01Ok_any f hf b _ HB.out).mono ?_; rintro e w' ⟨rfl, rfl⟩; rw [hok])
        | (refine wpList_store_row rfl 115 _ _ rfl w.heap.size Tryd.zeroCells115 rfl rfl 115 _ (M0.at 0 rfl) (by rw [hz.out]; exact sizeB) (by rw [hz.out]) hz1.out ?_))
      generalize World.setRow _ _ _ = W1 at M1 ⊢
      have M2 : Mem w W1 [⟨w.heap.size, bcells 100 (fun c => !freeAt F 0 c), 115⟩] := by
        rw [show bcells 100 (fun c => !freeAt F 0 c) = Tryd.zeroCells115 by rw [zeroB]; exact bcells_congr (fun i _ => by rw [freeAt_zero]; rfl)]; exact M1
      clear M0 M1 hz hz1
      go_wp2_with fail
      go_loopw [6] (fun i wr => ∃ k : Nat, k ≤ n ∧ i = .int .i64 k ∧ Hid (Mem w wr [⟨w.heap.size, bcells 100 (fun c => !freeAt F k c), 115⟩]) ∧ Hid (∀ i, i < k → scareOk f F i = true)) (fun i _ => n - (intOf i).toNat)
      case atStart => exact ⟨0, by omega, rfl, Lib.hid M2, Lib.hid (fun i hi => by omega)⟩
      case round =>
        clear M2
        obtain ⟨k, hk, rfl, hM, hall⟩ := hrel
        by_cases hlt : k < n
        · obtain ⟨c0, c1, c2⟩ : ScrAt wr d (k * 3) (F k) := scrAt_of (by have h := HI.out.later hM.out.below k hlt; rw [Nat.zero_add] at h; exact h)
          have hT := Lib.hid (wfT_row HF.out hlt)
          go_upto_region 8 with (fail)
          clear c0 c1 c2
          obtain ⟨sb, hsb⟩ : ∃ sb, sb = wr.heap.size := ⟨_, rfl⟩
          have M3 : Mem w (wr.alloc (.cells #[.int .i16 (F k 0), .int .i16 (F k 1), .int .i8 (F k 2)] 71)) [⟨w.heap.size, bcells 100 (fun c => !freeAt F k c), 115⟩, ⟨sb, #[.int .i16 (F k 0), .int .i16 (F k 1), .int .i8 (F k 2)], 71⟩] := by rw [hsb]; exact hM.out.alloc _ _
          generalize wr.alloc _ = W2 at M3 ⊢
          rw [← hsb]
          clear hsb hM
          cases q1 : shapeOk (F k) with
          | false =>
            have hx : Hid (allTo n (fun i => scareOk f F i) = false) := Lib.hid (allTo_false hlt (by simp [scareOk, q1]))
            have hshape : Hid (∀ w', Calls Tryd.prog 75 #[vScarecrow (F k)] w' fun e w2 => e = .returned (.bool false) ∧ Below w'.heap.size w' w2) := Lib.hid (fun w' => by have h := l03Shape_any (F k) hT.out w'; rw [q1] at h; exact h)

            refine wp_region_rel (DL [dV (.agg #[.int .i16 (F k 0), .int .i16 (F k 1), .int .i8 (F k 2)]), dV (.bool false), dV (.bool true), dV (.bool true), dV (undef), dV (undef), dV (undef), dV (undef), dV (undef), dV (undef), dV (.bool true), dV (.bool true), dV (undef), dV (undef), dV (undef), dV (undef), dV (undef), dV (undef), dV (undef), dV (undef), dV (.bool true), dV (.bool true), dV (undef), dV (undef), dV (undef), dV (undef), dV (.bool true)]) (fun w' => Mem w w' [⟨w.heap.size, bcells 100 (fun c => !freeAt F k c), 115⟩, ⟨sb, #[.int .i16 (F k 0), .int .i16 (F k 1), .int .i8 (F k 2)], 71⟩]) (by kernel_rfl) (by kernel_rfl) grows_mem
              (stays_DL (fun d hd => by
                simp only [List.mem_cons, List.mem_nil_iff, or_false] at hd
                rcases hd with rfl | rfl | rfl | rfl | rfl | rfl | rfl | rfl | rfl | rfl | rfl | rfl | rfl | rfl | rfl | rfl | rfl | rfl | rfl | rfl | rfl | rfl | rfl | rfl | rfl | rfl | rfl <;> exact stay_V)) M3.drew ?_
            refine rel_load 71 _ rfl sb 0 rfl #[.int .i16 (F k 0), .int .i16 (F k 1), .int .i8 (F k 2)] _ rfl rfl (fun w' hw' => (Mem.at hw' 1 rfl).whole) Tryd.underlying71 rfl (by kernel_rfl) (fun _ => ?_)
            simp only [Act.put, List.setIfInBounds_toArray, List.set_cons_zero, List.set_cons_succ]
            refine rel_call (.bool false) 75 #[.agg #[.int .i16 (F k 0), .int .i16 (F k 1), .int .i8 (F k 2)]] rfl rfl rfl rfl (enters_of Tryd.func75 (by kernel_rfl) rfl) (fun w' _ => hshape.out w') (fun _ => ?_)
            simp only [Act.put, List.setIfInBounds_toArray, List.set_cons_zero, List.set_cons_succ]
            refine rel_val (.bool true) rfl rfl (fun _ _ => rfl) (fun _ => ?_)
            simp only [Act.put, List.setIfInBounds_toArray, List.set_cons_zero, List.set_cons_succ]
            refine rel_val (.bool true) rfl rfl (fun _ _ => rfl) (fun _ => ?_)
            simp only [Act.put, List.setIfInBounds_toArray, List.set_cons_zero, List.set_cons_succ]
            refine rel_skip rfl ?_
            simp only [Act.put, List.setIfInBounds_toArray, List.set_cons_zero, List.set_cons_succ]
            refine rel_skip rfl ?_
            simp only [Act.put, List.setIfInBounds_toArray, List.set_cons_zero, List.set_cons_succ]
            refine rel_skip rfl ?_
            simp only [Act.put, List.setIfInBounds_toArray, List.set_cons_zero, List.set_cons_succ]
            refine rel_skip rfl ?_
            simp only [Act.put, List.setIfInBounds_toArray, List.set_cons_zero, List.set_cons_succ]
            refine rel_skip rfl ?_
            simp only [Act.put, List.setIfInBounds_toArray, List.set_cons_zero, List.set_cons_succ]
            refine rel_skip rfl ?_
            simp only [Act.put, List.setIfInBounds_toArray, List.set_cons_zero, List.set_cons_succ]
            refine rel_val (.bool true) rfl rfl (fun _ _ => rfl) (fun _ => ?_)
            simp only [Act.put, List.setIfInBounds_toArray, List.set_cons_zero, List.set_cons_succ]
            refine rel_val (.bool true) rfl rfl (fun _ _ => rfl) (fun _ => ?_)
            simp only [Act.put, List.setIfInBounds_toArray, List.set_cons_zero, List.set_cons_succ]
            refine rel_skip rfl ?_
            simp only [Act.put, List.setIfInBounds_toArray, List.set_cons_zero, List.set_cons_succ]
            refine rel_skip rfl ?_
            simp only [Act.put, List.setIfInBounds_toArray, List.set_cons_zero, List.set_cons_succ]
            refine rel_skip rfl ?_
            simp only [Act.put, List.setIfInBounds_toArray, List.set_cons_zero, List.set_cons_succ]
            refine rel_skip rfl ?_
            simp only [Act.put, List.setIfInBounds_toArray, List.set_cons_zero, List.set_cons_succ]
            refine rel_skip rfl ?_
            simp only [Act.put, List.setIfInBounds_toArray, List.set_cons_zero, List.set_cons_succ]
            refine rel_skip rfl ?_
            simp only [Act.put, List.setIfInBounds_toArray, List.set_cons_zero, List.set_cons_succ]
            refine rel_skip rfl ?_
            simp only [Act.put, List.setIfInBounds_toArray, List.set_cons_zero, List.set_cons_succ]
            refine rel_skip rfl ?_
            simp only [Act.put, List.setIfInBounds_toArray, List.set_cons_zero, List.set_cons_succ]
            refine rel_val (.bool true) rfl rfl (fun _ _ => rfl) (fun _ => ?_)
            simp only [Act.put, List.setIfInBounds_toArray, List.set_cons_zero, List.set_cons_succ]
            refine rel_val (.bool true) rfl rfl (fun _ _ => rfl) (fun _ => ?_)
            simp only [Act.put, List.setIfInBounds_toArray, List.set_cons_zero, List.set_cons_succ]
            refine rel_skip rfl ?_
            simp only [Act.put, List.setIfInBounds_toArray, List.set_cons_zero, List.set_cons_succ]
            refine rel_skip rfl ?_
            simp only [Act.put, List.setIfInBounds_toArray, List.set_cons_zero, List.set_cons_succ]
            refine rel_skip rfl ?_
            simp only [Act.put, List.setIfInBounds_toArray, List.set_cons_zero, List.set_cons_succ]
            refine rel_skip rfl ?_
            simp only [Act.put, List.setIfInBounds_toArray, List.set_cons_zero, List.set_cons_succ]
            refine rel_val (.bool true) rfl rfl (fun _ _ => rfl) (fun _ => ?_)
            simp only [Act.put, List.setIfInBounds_toArray, List.set_cons_zero, List.set_cons_succ]
            refine rel_nil (fun w' inv => ?_)
            have hb := Mem.below inv.cls
            clear inv
            go_wp2_with fail
            go_ret
            exact ⟨by rw [hx.out]; rfl, hb⟩
          | true =>
            have h99 : 0 ≤ F k 0 ∧ F k 0 ≤ 99 := by simp only [shapeOk, Bool.and_eq_true, inB_iff] at q1; exact q1.1.1
            obtain ⟨m, e⟩ : ∃ m : Nat, F k 0 = (m : Int) := ⟨(F k 0).toNat, by omega⟩
            have hm : m < 100 := by omega
            have hm1 : (m : Int) < 100 := by omega
            clear h99
            rw [e] at M3 ⊢
            have hshape : Hid (∀ w', Calls Tryd.prog 75 #[.agg #[.int .i16 (m : Int), .int .i16 (F k 1), .int .i8 (F k 2)]] w' fun e w2 => e = .returned (.bool true) ∧ Below w'.heap.size w' w2) := Lib.hid (fun w' => by have h := l03Shape_any (F k) hT.out w'; rw [q1, vScarecrow, e] at h; exact h)
            cases q2 : isCell f m with
            | false =>
              have hx : Hid (allTo n (fun i => scareOk f F i) = false) := Lib.hid (allTo_false hlt (by simp [scareOk, standsOk, e, q2]))

              refine wp_region_rel (DL [dV (.agg #[.int .i16 ((m : Int)), .int .i16 (F k 1), .int .i8 (F k 2)]), dV (.bool true), dV (.bool false), dV (.bool false), dV (.pointer (some ⟨b, 0, none⟩)), dV (.pointer (some ⟨sb, 0, none⟩)), dV (.int .i16 ((m : Int))), dV (.int .i64 ((m : Int))), dV (.bool false), dV (.bool true), dV (.bool true), dV (.bool true), dV (undef), dV (undef), dV (undef), dV (undef), dV (undef), dV (undef), dV (undef), dV (undef), dV (.bool true), dV (.bool true), dV (undef), dV (undef), dV (undef), dV (undef), dV (.bool true)]) (fun w' => Mem w w' [⟨w.heap.size, bcells 100 (fun c => !freeAt F k c), 115⟩, ⟨sb, #[.int .i16 ((m : Int)), .int .i16 (F k 1), .int .i8 (F k 2)], 71⟩]) (by kernel_rfl) (by kernel_rfl) grows_mem
                (stays_DL (fun d hd => by
                  simp only [List.mem_cons, List.mem_nil_iff, or_false] at hd
                  rcases hd with rfl | rfl | rfl | rfl | rfl | rfl | rfl | rfl | rfl | rfl | rfl | rfl | rfl | rfl | rfl | rfl | rfl | rfl | rfl | rfl | rfl | rfl | rfl | rfl | rfl | rfl | rfl <;> exact stay_V)) M3.drew ?_
              refine rel_load 71 _ rfl sb 0 rfl #[.int .i16 ((m : Int)), .int .i16 (F k 1), .int .i8 (F k 2)] _ rfl rfl (fun w' hw' => (Mem.at hw' 1 rfl).whole) Tryd.underlying71 rfl (by kernel_rfl) (fun _ => ?_)
              simp only [Act.put, List.setIfInBounds_toArray, List.set_cons_zero, List.set_cons_succ]
              refine rel_call (.bool true) 75 #[.agg #[.int .i16 ((m : Int)), .int .i16 (F k 1), .int .i8 (F k 2)]] rfl rfl rfl rfl (enters_of Tryd.func75 (by kernel_rfl) rfl) (fun w' _ => hshape.out w') (fun _ => ?_)
              simp only [Act.put, List.setIfInBounds_toArray, List.set_cons_zero, List.set_cons_succ]
              refine rel_val (.bool false) rfl rfl (fun _ _ => rfl) (fun _ => ?_)
              simp only [Act.put, List.setIfInBounds_toArray, List.set_cons_zero, List.set_cons_succ]
              refine rel_val (.bool false) rfl rfl (fun _ _ => rfl) (fun _ => ?_)
              simp only [Act.put, List.setIfInBounds_toArray, List.set_cons_zero, List.set_cons_succ]
              refine rel_val (.pointer (some ⟨b, 0, none⟩)) rfl rfl (fun _ _ => rfl) (fun _ => ?_)
              simp only [Act.put, List.setIfInBounds_toArray, List.set_cons_zero, List.set_cons_succ]
              refine rel_val (.pointer (some ⟨sb, 0, none⟩)) rfl rfl (fun _ _ => rfl) (fun _ => ?_)
              simp only [Act.put, List.setIfInBounds_toArray, List.set_cons_zero, List.set_cons_succ]
              refine rel_cell 24 _ rfl sb 0 rfl (.int .i16 ((m : Int))) rfl rfl (fun w' c => load_i16 _ _ _ w' c) (fun w' hw' => (Mem.at hw' 1 rfl).cell (i := 0) rfl) (fun _ => ?_)
              simp only [Act.put, List.setIfInBounds_toArray, List.set_cons_zero, List.set_cons_succ]
              refine rel_val (.int .i64 ((m : Int))) rfl rfl (fun w' _ => by simp [execOp, go_sem]; exact IntWalk.i64_in _ (by omega)) (fun _ => ?_)
              simp only [Act.put, List.setIfInBounds_toArray, List.set_cons_zero, List.set_cons_succ]
              refine rel_call (.bool false) 20 #[.pointer (some ⟨b, 0, none⟩), .int .i64 ((m : Int))] rfl rfl rfl rfl (enters_of Tryd.func20 (by kernel_rfl) rfl) (fun w' hw' => (l01Is_any f ((m : Int)) b w' hf.W hf.H (HB.out.later (Mem.below hw'))).mono (fun e w2 h => ⟨by rw [h.1, q2], by rw [h.2]; exact Below.refl _ _⟩)) (fun _ => ?_)
              simp only [Act.put, List.setIfInBounds_toArray, List.set_cons_zero, List.set_cons_succ]
              refine rel_val (.bool true) rfl rfl (fun _ _ => rfl) (fun _ => ?_)
              simp only [Act.put, List.setIfInBounds_toArray, List.set_cons_zero, List.set_cons_succ]
              refine rel_val (.bool true) rfl rfl (fun _ _ => rfl) (fun _ => ?_)
              simp only [Act.put, List.setIfInBounds_toArray, List.set_cons_zero, List.set_cons_succ]
              refine rel_val (.bool true) rfl rfl (fun _ _ => rfl) (fun _ => ?_)
              simp only [Act.put, List.setIfInBounds_toArray, List.set_cons_zero, List.set_cons_succ]
              refine rel_skip rfl ?_
              simp only [Act.put, List.setIfInBounds_toArray, List.set_cons_zero, List.set_cons_succ]
              refine rel_skip rfl ?_
              simp only [Act.put, List.setIfInBounds_toArray, List.set_cons_zero, List.set_cons_succ]
              refine rel_skip rfl ?_
              simp only [Act.put, List.setIfInBounds_toArray, List.set_cons_zero, List.set_cons_succ]
              refine rel_skip rfl ?_
              simp only [Act.put, List.setIfInBounds_toArray, List.set_cons_zero, List.set_cons_succ]
              refine rel_skip rfl ?_
              simp only [Act.put, List.setIfInBounds_toArray, List.set_cons_zero, List.set_cons_succ]
              refine rel_skip rfl ?_
              simp only [Act.put, List.setIfInBounds_toArray, List.set_cons_zero, List.set_cons_succ]
              refine rel_skip rfl ?_
              simp only [Act.put, List.setIfInBounds_toArray, List.set_cons_zero, List.set_cons_succ]
              refine rel_skip rfl ?_
              simp only [Act.put, List.setIfInBounds_toArray, List.set_cons_zero, List.set_cons_succ]
              refine rel_val (.bool true) rfl rfl (fun _ _ => rfl) (fun _ => ?_)
              simp only [Act.put, List.setIfInBounds_toArray, List.set_cons_zero, List.set_cons_succ]
              refine rel_val (.bool true) rfl rfl (fun _ _ => rfl) (fun _ => ?_)
              simp only [Act.put, List.setIfInBounds_toArray, List.set_cons_zero, List.set_cons_succ]
              refine rel_skip rfl ?_
              simp only [Act.put, List.setIfInBounds_toArray, List.set_cons_zero, List.set_cons_succ]
              refine rel_skip rfl ?_
              simp only [Act.put, List.setIfInBounds_toArray, List.set_cons_zero, List.set_cons_succ]
              refine rel_skip rfl ?_
              simp only [Act.put, List.setIfInBounds_toArray, List.set_cons_zero, List.set_cons_succ]
              refine rel_skip rfl ?_
              simp only [Act.put, List.setIfInBounds_toArray, List.set_cons_zero, List.set_cons_succ]
              refine rel_val (.bool true) rfl rfl (fun _ _ => rfl) (fun _ => ?_)
              simp only [Act.put, List.setIfInBounds_toArray, List.set_cons_zero, List.set_cons_succ]
              refine rel_nil (fun w' inv => ?_)
              have hb := Mem.below inv.cls
              clear inv
              go_wp2_with fail
              go_ret
              exact ⟨by rw [hx.out]; rfl, hb⟩
            | true =>
              have hK := hf.K m hm
              cases q3 : (f.K m == 3) with
              | true =>
                have hx : Hid (allTo n (fun i => scareOk f F i) = false) := Lib.hid (allTo_false hlt (by have q3' : f.K m = 3 := (by simpa using q3); simp [scareOk, standsOk, e, q2, q3']))

                refine wp_region_rel (DL [dV (.agg #[.int .i16 ((m : Int)), .int .i16 (F k 1), .int .i8 (F k 2)]), dV (.bool true), dV (.bool false), dV (.bool false), dV (.pointer (some ⟨b, 0, none⟩)), dV (.pointer (some ⟨sb, 0, none⟩)), dV (.int .i16 ((m : Int))), dV (.int .i64 ((m : Int))), dV (.bool true), dV (.bool false), dV (.bool false), dV (.bool false), dV (.pointer (some ⟨b, 0, none⟩)), dV (.pointer (some ⟨sb, 0, none⟩)), dV (.int .i16 ((m : Int))), dV (.pointer (some ⟨b, 0, none⟩)), dV (.pointer (some ⟨b, 2, none⟩)), dV (.pointer (some ⟨b, 2 + m, none⟩)), dV (.int .u8 (f.K m)), dV (.bool true), dV (.bool true), dV (.bool true), dV (undef), dV (undef), dV (undef), dV (undef), dV (.bool true)]) (fun w' => Mem w w' [⟨w.heap.size, bcells 100 (fun c => !freeAt F k c), 115⟩, ⟨sb, #[.int .i16 ((m : Int)), .int .i16 (F k 1), .int .i8 (F k 2)], 71⟩]) (by kernel_rfl) (by kernel_rfl) grows_mem
                  (stays_DL (fun d hd => by
                    simp only [List.mem_cons, List.mem_nil_iff, or_false] at hd
                    rcases hd with rfl | rfl | rfl | rfl | rfl | rfl | rfl | rfl | rfl | rfl | rfl | rfl | rfl | rfl | rfl | rfl | rfl | rfl | rfl | rfl | rfl | rfl | rfl | rfl | rfl | rfl | rfl <;> exact stay_V)) M3.drew ?_
                refine rel_load 71 _ rfl sb 0 rfl #[.int .i16 ((m : Int)), .int .i16 (F k 1), .int .i8 (F k 2)] _ rfl rfl (fun w' hw' => (Mem.at hw' 1 rfl).whole) Tryd.underlying71 rfl (by kernel_rfl) (fun _ => ?_)
                simp only [Act.put, List.setIfInBounds_toArray, List.set_cons_zero, List.set_cons_succ]
                refine rel_call (.bool true) 75 #[.agg #[.int .i16 ((m : Int)), .int .i16 (F k 1), .int .i8 (F k 2)]] rfl rfl rfl rfl (enters_of Tryd.func75 (by kernel_rfl) rfl) (fun w' _ => hshape.out w') (fun _ => ?_)
                simp only [Act.put, List.setIfInBounds_toArray, List.set_cons_zero, List.set_cons_succ]
                refine rel_val (.bool false) rfl rfl (fun _ _ => rfl) (fun _ => ?_)
                simp only [Act.put, List.setIfInBounds_toArray, List.set_cons_zero, List.set_cons_succ]
                refine rel_val (.bool false) rfl rfl (fun _ _ => rfl) (fun _ => ?_)
                simp only [Act.put, List.setIfInBounds_toArray, List.set_cons_zero, List.set_cons_succ]
                refine rel_val (.pointer (some ⟨b, 0, none⟩)) rfl rfl (fun _ _ => rfl) (fun _ => ?_)
                simp only [Act.put, List.setIfInBounds_toArray, List.set_cons_zero, List.set_cons_succ]
                refine rel_val (.pointer (some ⟨sb, 0, none⟩)) rfl rfl (fun _ _ => rfl) (fun _ => ?_)
                simp only [Act.put, List.setIfInBounds_toArray, List.set_cons_zero, List.set_cons_succ]
                refine rel_cell 24 _ rfl sb 0 rfl (.int .i16 ((m : Int))) rfl rfl (fun w' c => load_i16 _ _ _ w' c) (fun w' hw' => (Mem.at hw' 1 rfl).cell (i := 0) rfl) (fun _ => ?_)
                simp only [Act.put, List.setIfInBounds_toArray, List.set_cons_zero, List.set_cons_succ]
                refine rel_val (.int .i64 ((m : Int))) rfl rfl (fun w' _ => by simp [execOp, go_sem]; exact IntWalk.i64_in _ (by omega)) (fun _ => ?_)
                simp only [Act.put, List.setIfInBounds_toArray, List.set_cons_zero, List.set_cons_succ]
                refine rel_call (.bool true) 20 #[.pointer (some ⟨b, 0, none⟩), .int .i64 ((m : Int))] rfl rfl rfl rfl (enters_of Tryd.func20 (by kernel_rfl) rfl) (fun w' hw' => (l01Is_any f ((m : Int)) b w' hf.W hf.H (HB.out.later (Mem.below hw'))).mono (fun e w2 h => ⟨by rw [h.1, q2], by rw [h.2]; exact Below.refl _ _⟩)) (fun _ => ?_)
                simp only [Act.put, List.setIfInBounds_toArray, List.set_cons_zero, List.set_cons_succ]
                refine rel_val (.bool false) rfl rfl (fun _ _ => rfl) (fun _ => ?_)
                simp only [Act.put, List.setIfInBounds_toArray, List.set_cons_zero, List.set_cons_succ]
                refine rel_val (.bool false) rfl rfl (fun _ _ => rfl) (fun _ => ?_)
                simp only [Act.put, List.setIfInBounds_toArray, List.set_cons_zero, List.set_cons_succ]
                refine rel_val (.bool false) rfl rfl (fun _ _ => rfl) (fun _ => ?_)
                simp only [Act.put, List.setIfInBounds_toArray, List.set_cons_zero, List.set_cons_succ]
                refine rel_val (.pointer (some ⟨b, 0, none⟩)) rfl rfl (fun _ _ => rfl) (fun _ => ?_)
                simp only [Act.put, List.setIfInBounds_toArray, List.set_cons_zero, List.set_cons_succ]
                refine rel_val (.pointer (some ⟨sb, 0, none⟩)) rfl rfl (fun _ _ => rfl) (fun _ => ?_)
                simp only [Act.put, List.setIfInBounds_toArray, List.set_cons_zero, List.set_cons_succ]
                refine rel_cell 24 _ rfl sb 0 rfl (.int .i16 ((m : Int))) rfl rfl (fun w' c => load_i16 _ _ _ w' c) (fun w' hw' => (Mem.at hw' 1 rfl).cell (i := 0) rfl) (fun _ => ?_)
                simp only [Act.put, List.setIfInBounds_toArray, List.set_cons_zero, List.set_cons_succ]
                refine rel_val (.pointer (some ⟨b, 0, none⟩)) rfl rfl (fun w' hw' => by simp [execOp, go_sem]) (fun _ => ?_)
                simp only [Act.put, List.setIfInBounds_toArray, List.set_cons_zero, List.set_cons_succ]
                refine rel_val (.pointer (some ⟨b, 2, none⟩)) rfl rfl (fun _ _ => rfl) (fun _ => ?_)
                simp only [Act.put, List.setIfInBounds_toArray, List.set_cons_zero, List.set_cons_succ]
                refine rel_val (.pointer (some ⟨b, 2 + m, none⟩)) rfl rfl (fun w' _ => by simp [execOp, go_sem]; intro h; omega) (fun _ => ?_)
                simp only [Act.put, List.setIfInBounds_toArray, List.set_cons_zero, List.set_cons_succ]
                refine rel_cell 5 _ rfl b (2 + m) rfl (.int .u8 (f.K m)) rfl rfl (fun w' c => load_u8 _ _ _ w' c) (fun w' hw' => (HB.out.later (Mem.below hw')).cell (fcells_K f m hm)) (fun _ => ?_)
                simp only [Act.put, List.setIfInBounds_toArray, List.set_cons_zero, List.set_cons_succ]
                refine rel_val (.bool true) rfl rfl (fun w' _ => by simp [execOp, go_sem, q3]) (fun _ => ?_)
                simp only [Act.put, List.setIfInBounds_toArray, List.set_cons_zero, List.set_cons_succ]
                refine rel_val (.bool true) rfl rfl (fun _ _ => rfl) (fun _ => ?_)
                simp only [Act.put, List.setIfInBounds_toArray, List.set_cons_zero, List.set_cons_succ]
                refine rel_val (.bool true) rfl rfl (fun _ _ => rfl) (fun _ => ?_)
                simp only [Act.put, List.setIfInBounds_toArray, List.set_cons_zero, List.set_cons_succ]
                refine rel_skip rfl ?_
                simp only [Act.put, List.setIfInBounds_toArray, List.set_cons_zero, List.set_cons_succ]
                refine rel_skip rfl ?_
                simp only [Act.put, List.setIfInBounds_toArray, List.set_cons_zero, List.set_cons_succ]
                refine rel_skip rfl ?_
                simp only [Act.put, List.setIfInBounds_toArray, List.set_cons_zero, List.set_cons_succ]
                refine rel_skip rfl ?_
                simp only [Act.put, List.setIfInBounds_toArray, List.set_cons_zero, List.set_cons_succ]
                refine rel_val (.bool true) rfl rfl (fun _ _ => rfl) (fun _ => ?_)
                simp only [Act.put, List.setIfInBounds_toArray, List.set_cons_zero, List.set_cons_succ]
                refine rel_nil (fun w' inv => ?_)
                have hb := Mem.below inv.cls
                clear inv
                go_wp2_with fail
                go_ret
                exact ⟨by rw [hx.out]; rfl, hb⟩
              | false =>
                have q3' : (f.K m != 3) = true := by simpa using q3
                cases q4 : freeAt F k m with
                | false =>
                  have hx : Hid (allTo n (fun i => scareOk f F i) = false) := Lib.hid (allTo_false hlt (by simp [scareOk, e, q4]))
                  have hseen : Hid ((!freeAt F k m) = true) := Lib.hid (by simp [q4])

                  refine wp_region_rel (DL [dV (.agg #[.int .i16 ((m : Int)), .int .i16 (F k 1), .int .i8 (F k 2)]), dV (.bool true), dV (.bool false), dV (.bool false), dV (.pointer (some ⟨b, 0, none⟩)), dV (.pointer (some ⟨sb, 0, none⟩)), dV (.int .i16 ((m : Int))), dV (.int .i64 ((m : Int))), dV (.bool true), dV (.bool false), dV (.bool false), dV (.bool false), dV (.pointer (some ⟨b, 0, none⟩)), dV (.pointer (some ⟨sb, 0, none⟩)), dV (.int .i16 ((m : Int))), dV (.pointer (some ⟨b, 0, none⟩)), dV (.pointer (some ⟨b, 2, none⟩)), dV (.pointer (some ⟨b, 2 + m, none⟩)), dV (.int .u8 (f.K m)), dV (.bool false), dV (.bool false), dV (.bool false), dV (.pointer (some ⟨sb, 0, none⟩)), dV (.int .i16 ((m : Int))), dV (.pointer (some ⟨w.heap.size, m, none⟩)), dV (.bool true), dV (.bool true)]) (fun w' => Mem w w' [⟨w.heap.size, bcells 100 (fun c => !freeAt F k c), 115⟩, ⟨sb, #[.int .i16 ((m : Int)), .int .i16 (F k 1), .int .i8 (F k 2)], 71⟩]) (by kernel_rfl) (by kernel_rfl) grows_mem
                    (stays_DL (fun d hd => by
                      simp only [List.mem_cons, List.mem_nil_iff, or_false] at hd
                      rcases hd with rfl | rfl | rfl | rfl | rfl | rfl | rfl | rfl | rfl | rfl | rfl | rfl | rfl | rfl | rfl | rfl | rfl | rfl | rfl | rfl | rfl | rfl | rfl | rfl | rfl | rfl | rfl <;> exact stay_V)) M3.drew ?_
                  refine rel_load 71 _ rfl sb 0 rfl #[.int .i16 ((m : Int)), .int .i16 (F k 1), .int .i8 (F k 2)] _ rfl rfl (fun w' hw' => (Mem.at hw' 1 rfl).whole) Tryd.underlying71 rfl (by kernel_rfl) (fun _ => ?_)
                  simp only [Act.put, List.setIfInBounds_toArray, List.set_cons_zero, List.set_cons_succ]
                  refine rel_call (.bool true) 75 #[.agg #[.int .i16 ((m : Int)), .int .i16 (F k 1), .int .i8 (F k 2)]] rfl rfl rfl rfl (enters_of Tryd.func75 (by kernel_rfl) rfl) (fun w' _ => hshape.out w') (fun _ => ?_)
                  simp only [Act.put, List.setIfInBounds_toArray, List.set_cons_zero, List.set_cons_succ]
                  refine rel_val (.bool false) rfl rfl (fun _ _ => rfl) (fun _ => ?_)
                  simp only [Act.put, List.setIfInBounds_toArray, List.set_cons_zero, List.set_cons_succ]
                  refine rel_val (.bool false) rfl rfl (fun _ _ => rfl) (fun _ => ?_)
                  simp only [Act.put, List.setIfInBounds_toArray, List.set_cons_zero, List.set_cons_succ]
                  refine rel_val (.pointer (some ⟨b, 0, none⟩)) rfl rfl (fun _ _ => rfl) (fun _ => ?_)
                  simp only [Act.put, List.setIfInBounds_toArray, List.set_cons_zero, List.set_cons_succ]
                  refine rel_val (.pointer (some ⟨sb, 0, none⟩)) rfl rfl (fun _ _ => rfl) (fun _ => ?_)
                  simp only [Act.put, List.setIfInBounds_toArray, List.set_cons_zero, List.set_cons_succ]
                  refine rel_cell 24 _ rfl sb 0 rfl (.int .i16 ((m : Int))) rfl rfl (fun w' c => load_i16 _ _ _ w' c) (fun w' hw' => (Mem.at hw' 1 rfl).cell (i := 0) rfl) (fun _ => ?_)
                  simp only [Act.put, List.setIfInBounds_toArray, List.set_cons_zero, List.set_cons_succ]
                  refine rel_val (.int .i64 ((m : Int))) rfl rfl (fun w' _ => by simp [execOp, go_sem]; exact IntWalk.i64_in _ (by omega)) (fun _ => ?_)
                  simp only [Act.put, List.setIfInBounds_toArray, List.set_cons_zero, List.set_cons_succ]
                  refine rel_call (.bool true) 20 #[.pointer (some ⟨b, 0, none⟩), .int .i64 ((m : Int))] rfl rfl rfl rfl (enters_of Tryd.func20 (by kernel_rfl) rfl) (fun w' hw' => (l01Is_any f ((m : Int)) b w' hf.W hf.H (HB.out.later (Mem.below hw'))).mono (fun e w2 h => ⟨by rw [h.1, q2], by rw [h.2]; exact Below.refl _ _⟩)) (fun _ => ?_)
                  simp only [Act.put, List.setIfInBounds_toArray, List.set_cons_zero, List.set_cons_succ]
                  refine rel_val (.bool false) rfl rfl (fun _ _ => rfl) (fun _ => ?_)
                  simp only [Act.put, List.setIfInBounds_toArray, List.set_cons_zero, List.set_cons_succ]
                  refine rel_val (.bool false) rfl rfl (fun _ _ => rfl) (fun _ => ?_)
                  simp only [Act.put, List.setIfInBounds_toArray, List.set_cons_zero, List.set_cons_succ]
                  refine rel_val (.bool false) rfl rfl (fun _ _ => rfl) (fun _ => ?_)
                  simp only [Act.put, List.setIfInBounds_toArray, List.set_cons_zero, List.set_cons_succ]
                  refine rel_val (.pointer (some ⟨b, 0, none⟩)) rfl rfl (fun _ _ => rfl) (fun _ => ?_)
                  simp only [Act.put, List.setIfInBounds_toArray, List.set_cons_zero, List.set_cons_succ]
                  refine rel_val (.pointer (some ⟨sb, 0, none⟩)) rfl rfl (fun _ _ => rfl) (fun _ => ?_)
                  simp only [Act.put, List.setIfInBounds_toArray, List.set_cons_zero, List.set_cons_succ]
                  refine rel_cell 24 _ rfl sb 0 rfl (.int .i16 ((m : Int))) rfl rfl (fun w' c => load_i16 _ _ _ w' c) (fun w' hw' => (Mem.at hw' 1 rfl).cell (i := 0) rfl) (fun _ => ?_)
                  simp only [Act.put, List.setIfInBounds_toArray, List.set_cons_zero, List.set_cons_succ]
                  refine rel_val (.pointer (some ⟨b, 0, none⟩)) rfl rfl (fun w' hw' => by simp [execOp, go_sem]) (fun _ => ?_)
                  simp only [Act.put, List.setIfInBounds_toArray, List.set_cons_zero, List.set_cons_succ]
                  refine rel_val (.pointer (some ⟨b, 2, none⟩)) rfl rfl (fun _ _ => rfl) (fun _ => ?_)
                  simp only [Act.put, List.setIfInBounds_toArray, List.set_cons_zero, List.set_cons_succ]
                  refine rel_val (.pointer (some ⟨b, 2 + m, none⟩)) rfl rfl (fun w' _ => by simp [execOp, go_sem]; intro h; omega) (fun _ => ?_)
                  simp only [Act.put, List.setIfInBounds_toArray, List.set_cons_zero, List.set_cons_succ]
                  refine rel_cell 5 _ rfl b (2 + m) rfl (.int .u8 (f.K m)) rfl rfl (fun w' c => load_u8 _ _ _ w' c) (fun w' hw' => (HB.out.later (Mem.below hw')).cell (fcells_K f m hm)) (fun _ => ?_)
                  simp only [Act.put, List.setIfInBounds_toArray, List.set_cons_zero, List.set_cons_succ]
                  refine rel_val (.bool false) rfl rfl (fun w' _ => by simp [execOp, go_sem, q3]) (fun _ => ?_)
                  simp only [Act.put, List.setIfInBounds_toArray, List.set_cons_zero, List.set_cons_succ]
                  refine rel_val (.bool false) rfl rfl (fun _ _ => rfl) (fun _ => ?_)
                  simp only [Act.put, List.setIfInBounds_toArray, List.set_cons_zero, List.set_cons_succ]
                  refine rel_val (.bool false) rfl rfl (fun _ _ => rfl) (fun _ => ?_)
                  simp only [Act.put, List.setIfInBounds_toArray, List.set_cons_zero, List.set_cons_succ]
                  refine rel_val (.pointer (some ⟨sb, 0, none⟩)) rfl rfl (fun _ _ => rfl) (fun _ => ?_)
                  simp only [Act.put, List.setIfInBounds_toArray, List.set_cons_zero, List.set_cons_succ]
                  refine rel_cell 24 _ rfl sb 0 rfl (.int .i16 ((m : Int))) rfl rfl (fun w' c => load_i16 _ _ _ w' c) (fun w' hw' => (Mem.at hw' 1 rfl).cell (i := 0) rfl) (fun _ => ?_)
                  simp only [Act.put, List.setIfInBounds_toArray, List.set_cons_zero, List.set_cons_succ]
                  refine rel_val (.pointer (some ⟨w.heap.size, m, none⟩)) rfl rfl (fun w' _ => by simp [execOp, go_sem]; intro h; omega) (fun _ => ?_)
                  simp only [Act.put, List.setIfInBounds_toArray, List.set_cons_zero, List.set_cons_succ]
                  refine rel_cell 4 _ rfl w.heap.size m rfl (.bool true) rfl rfl (fun w' c => load_bool _ _ _ w' c) (fun w' hw' => by have h := (Mem.at hw' 0 rfl).cell (bcells_get 100 (fun c => !freeAt F k c) m hm); have h2 := hseen.out; simp only [h2] at h; exact h) (fun _ => ?_)
                  simp only [Act.put, List.setIfInBounds_toArray, List.set_cons_zero, List.set_cons_succ]
                  refine rel_val (.bool true) rfl rfl (fun _ _ => rfl) (fun _ => ?_)
                  simp only [Act.put, List.setIfInBounds_toArray, List.set_cons_zero, List.set_cons_succ]
                  refine rel_nil (fun w' inv => ?_)
                  have hb := Mem.below inv.cls
                  clear inv
                  go_wp2_with fail
                  go_ret
                  exact ⟨by rw [hx.out]; rfl, hb⟩
                | true =>
                  have hsc : Hid (scareOk f F k = true) := Lib.hid (by simp [scareOk, standsOk, e, q1, q2, q3', q4])
                  have hseen : Hid ((!freeAt F k m) = false) := Lib.hid (by simp [q4])

                  refine wp_region_rel (DL [dV (.agg #[.int .i16 ((m : Int)), .int .i16 (F k 1), .int .i8 (F k 2)]), dV (.bool true), dV (.bool false), dV (.bool false), dV (.pointer (some ⟨b, 0, none⟩)), dV (.pointer (some ⟨sb, 0, none⟩)), dV (.int .i16 ((m : Int))), dV (.int .i64 ((m : Int))), dV (.bool true), dV (.bool false), dV (.bool false), dV (.bool false), dV (.pointer (some ⟨b, 0, none⟩)), dV (.pointer (some ⟨sb, 0, none⟩)), dV (.int .i16 ((m : Int))), dV (.pointer (some ⟨b, 0, none⟩)), dV (.pointer (some ⟨b, 2, none⟩)), dV (.pointer (some ⟨b, 2 + m, none⟩)), dV (.int .u8 (f.K m)), dV (.bool false), dV (.bool false), dV (.bool false), dV (.pointer (some ⟨sb, 0, none⟩)), dV (.int .i16 ((m : Int))), dV (.pointer (some ⟨w.heap.size, m, none⟩)), dV (.bool false), dV (.bool false)]) (fun w' => Mem w w' [⟨w.heap.size, bcells 100 (fun c => !freeAt F k c), 115⟩, ⟨sb, #[.int .i16 ((m : Int)), .int .i16 (F k 1), .int .i8 (F k 2)], 71⟩]) (by kernel_rfl) (by kernel_rfl) grows_mem
                    (stays_DL (fun d hd => by
                      simp only [List.mem_cons, List.mem_nil_iff, or_false] at hd
                      rcases hd with rfl | rfl | rfl | rfl | rfl | rfl | rfl | rfl | rfl | rfl | rfl | rfl | rfl | rfl | rfl | rfl | rfl | rfl | rfl | rfl | rfl | rfl | rfl | rfl | rfl | rfl | rfl <;> exact stay_V)) M3.drew ?_
                  refine rel_load 71 _ rfl sb 0 rfl #[.int .i16 ((m : Int)), .int .i16 (F k 1), .int .i8 (F k 2)] _ rfl rfl (fun w' hw' => (Mem.at hw' 1 rfl).whole) Tryd.underlying71 rfl (by kernel_rfl) (fun _ => ?_)
                  simp only [Act.put, List.setIfInBounds_toArray, List.set_cons_zero, List.set_cons_succ]
                  refine rel_call (.bool true) 75 #[.agg #[.int .i16 ((m : Int)), .int .i16 (F k 1), .int .i8 (F k 2)]] rfl rfl rfl rfl (enters_of Tryd.func75 (by kernel_rfl) rfl) (fun w' _ => hshape.out w') (fun _ => ?_)
                  simp only [Act.put, List.setIfInBounds_toArray, List.set_cons_zero, List.set_cons_succ]
                  refine rel_val (.bool false) rfl rfl (fun _ _ => rfl) (fun _ => ?_)
                  simp only [Act.put, List.setIfInBounds_toArray, List.set_cons_zero, List.set_cons_succ]
                  refine rel_val (.bool false) rfl rfl (fun _ _ => rfl) (fun _ => ?_)
                  simp only [Act.put, List.setIfInBounds_toArray, List.set_cons_zero, List.set_cons_succ]
                  refine rel_val (.pointer (some ⟨b, 0, none⟩)) rfl rfl (fun _ _ => rfl) (fun _ => ?_)
                  simp only [Act.put, List.setIfInBounds_toArray, List.set_cons_zero, List.set_cons_succ]
                  refine rel_val (.pointer (some ⟨sb, 0, none⟩)) rfl rfl (fun _ _ => rfl) (fun _ => ?_)
                  simp only [Act.put, List.setIfInBounds_toArray, List.set_cons_zero, List.set_cons_succ]
                  refine rel_cell 24 _ rfl sb 0 rfl (.int .i16 ((m : Int))) rfl rfl (fun w' c => load_i16 _ _ _ w' c) (fun w' hw' => (Mem.at hw' 1 rfl).cell (i := 0) rfl) (fun _ => ?_)
                  simp only [Act.put, List.setIfInBounds_toArray, List.set_cons_zero, List.set_cons_succ]
                  refine rel_val (.int .i64 ((m : Int))) rfl rfl (fun w' _ => by simp [execOp, go_sem]; exact IntWalk.i64_in _ (by omega)) (fun _ => ?_)
                  simp only [Act.put, List.setIfInBounds_toArray, List.set_cons_zero, List.set_cons_succ]
                  refine rel_call (.bool true) 20 #[.pointer (some ⟨b, 0, none⟩), .int .i64 ((m : Int))] rfl rfl rfl rfl (enters_of Tryd.func20 (by kernel_rfl) rfl) (fun w' hw' => (l01Is_any f ((m : Int)) b w' hf.W hf.H (HB.out.later (Mem.below hw'))).mono (fun e w2 h => ⟨by rw [h.1, q2], by rw [h.2]; exact Below.refl _ _⟩)) (fun _ => ?_)
                  simp only [Act.put, List.setIfInBounds_toArray, List.set_cons_zero, List.set_cons_succ]
                  refine rel_val (.bool false) rfl rfl (fun _ _ => rfl) (fun _ => ?_)
                  simp only [Act.put, List.setIfInBounds_toArray, List.set_cons_zero, List.set_cons_succ]
                  refine rel_val (.bool false) rfl rfl (fun _ _ => rfl) (fun _ => ?_)
                  simp only [Act.put, List.setIfInBounds_toArray, List.set_cons_zero, List.set_cons_succ]
                  refine rel_val (.bool false) rfl rfl (fun _ _ => rfl) (fun _ => ?_)
                  simp only [Act.put, List.setIfInBounds_toArray, List.set_cons_zero, List.set_cons_succ]
                  refine rel_val (.pointer (some ⟨b, 0, none⟩)) rfl rfl (fun _ _ => rfl) (fun _ => ?_)
                  simp only [Act.put, List.setIfInBounds_toArray, List.set_cons_zero, List.set_cons_succ]
                  refine rel_val (.pointer (some ⟨sb, 0, none⟩)) rfl rfl (fun _ _ => rfl) (fun _ => ?_)
                  simp only [Act.put, List.setIfInBounds_toArray, List.set_cons_zero, List.set_cons_succ]
                  refine rel_cell 24 _ rfl sb 0 rfl (.int .i16 ((m : Int))) rfl rfl (fun w' c => load_i16 _ _ _ w' c) (fun w' hw' => (Mem.at hw' 1 rfl).cell (i := 0) rfl) (fun _ => ?_)
                  simp only [Act.put, List.setIfInBounds_toArray, List.set_cons_zero, List.set_cons_succ]
                  refine rel_val (.pointer (some ⟨b, 0, none⟩)) rfl rfl (fun w' hw' => by simp [execOp, go_sem]) (fun _ => ?_)
                  simp only [Act.put, List.setIfInBounds_toArray, List.set_cons_zero, List.set_cons_succ]
                  refine rel_val (.pointer (some ⟨b, 2, none⟩)) rfl rfl (fun _ _ => rfl) (fun _ => ?_)
                  simp only [Act.put, List.setIfInBounds_toArray, List.set_cons_zero, List.set_cons_succ]
                  refine rel_val (.pointer (some ⟨b, 2 + m, none⟩)) rfl rfl (fun w' _ => by simp [execOp, go_sem]; intro h; omega) (fun _ => ?_)
                  simp only [Act.put, List.setIfInBounds_toArray, List.set_cons_zero, List.set_cons_succ]
                  refine rel_cell 5 _ rfl b (2 + m) rfl (.int .u8 (f.K m)) rfl rfl (fun w' c => load_u8 _ _ _ w' c) (fun w' hw' => (HB.out.later (Mem.below hw')).cell (fcells_K f m hm)) (fun _ => ?_)
                  simp only [Act.put, List.setIfInBounds_toArray, List.set_cons_zero, List.set_cons_succ]
                  refine rel_val (.bool false) rfl rfl (fun w' _ => by simp [execOp, go_sem, q3]) (fun _ => ?_)
                  simp only [Act.put, List.setIfInBounds_toArray, List.set_cons_zero, List.set_cons_succ]
                  refine rel_val (.bool false) rfl rfl (fun _ _ => rfl) (fun _ => ?_)
                  simp only [Act.put, List.setIfInBounds_toArray, List.set_cons_zero, List.set_cons_succ]
                  refine rel_val (.bool false) rfl rfl (fun _ _ => rfl) (fun _ => ?_)
                  simp only [Act.put, List.setIfInBounds_toArray, List.set_cons_zero, List.set_cons_succ]
                  refine rel_val (.pointer (some ⟨sb, 0, none⟩)) rfl rfl (fun _ _ => rfl) (fun _ => ?_)
                  simp only [Act.put, List.setIfInBounds_toArray, List.set_cons_zero, List.set_cons_succ]
                  refine rel_cell 24 _ rfl sb 0 rfl (.int .i16 ((m : Int))) rfl rfl (fun w' c => load_i16 _ _ _ w' c) (fun w' hw' => (Mem.at hw' 1 rfl).cell (i := 0) rfl) (fun _ => ?_)
                  simp only [Act.put, List.setIfInBounds_toArray, List.set_cons_zero, List.set_cons_succ]
                  refine rel_val (.pointer (some ⟨w.heap.size, m, none⟩)) rfl rfl (fun w' _ => by simp [execOp, go_sem]; intro h; omega) (fun _ => ?_)
                  simp only [Act.put, List.setIfInBounds_toArray, List.set_cons_zero, List.set_cons_succ]
                  refine rel_cell 4 _ rfl w.heap.size m rfl (.bool false) rfl rfl (fun w' c => load_bool _ _ _ w' c) (fun w' hw' => by have h := (Mem.at hw' 0 rfl).cell (bcells_get 100 (fun c => !freeAt F k c) m hm); have h2 := hseen.out; simp only [h2] at h; exact h) (fun _ => ?_)
                  simp only [Act.put, List.setIfInBounds_toArray, List.set_cons_zero, List.set_cons_succ]
                  refine rel_val (.bool false) rfl rfl (fun _ _ => rfl) (fun _ => ?_)
                  simp only [Act.put, List.setIfInBounds_toArray, List.set_cons_zero, List.set_cons_succ]
                  refine rel_nil (fun w' inv => ?_)
                  have M4 := inv.cls
                  clear inv M3
                  have c0 := (M4.at 1 rfl).cell (i := 0) rfl
                  have d0 := (M4.at 0 rfl).cell (bcells_get 100 (fun c => !freeAt F k c) m hm)
                  have e0 := (M4.at 0 rfl).free m
                  have hset : bcells 100 (fun i => if i = m then true else !freeAt F k i) = bcells 100 (fun c => !freeAt F (k + 1) c) := bcells_congr (fun i _ => by
                    rw [freeAt_succ, e]
                    by_cases h : i = m
                    · subst h; simp
                    · have h2 : ((m : Int) != (i : Int)) = true := by simp; omega
                      rw [if_neg h, h2, Bool.and_true])
                  have M5 := M4.set 0 m (.bool true) rfl _ ((bcells_set 100 (fun c => !freeAt F k c) m true hm).trans hset)
                  go_wp2_with fail
                  go_roundw
                  case rel => exact ⟨k + 1, by omega, by go_num, Lib.hid (Mem.fst M5), Lib.hid (upto_succ hall.out hsc.out)⟩
                  case measure => simp [intOf]; omega
        · obtain rfl : k = n := by omega
          have hx : Hid (allTo k (fun i => scareOk f F i) = true) := Lib.hid (allTo_iff.2 hall.out)
          go_wp2_with fail
          go_ret
          exact ⟨by rw [hx.out]; rfl, hM.out.below⟩
end Go.Proofs.YteclngooblafoaaDoor
