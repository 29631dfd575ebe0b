/-
  A drawn region that loads rows and stores them back as they were: the world stays as it is.
  What is seen on a beat: the model's l05Seen.
  Gaps: from one minute in which a cell is seen to the next one (numbers alone).
  Gaps: the model's l05Gap, the program's gapOf.
  The list of a set, ascending, as the model makes it: a slice of its own.
  What is in a set, but not in another one: its bits.
  Elements of slices in drawn regions; structs of integers compared.
  The best cell of a set, for a closure with three cells of its own.
  What is seen on a beat, as a set: the model's, the program's.
  SeenBy: the model's, the program's.
  The worst gap: numbers and sets; the model's l05Worst, the program's worstOf.
  WorstGap: the model's, the program's.
-/
import Derived.Test.YtfchbdbfokpcdaaDoorRegM
import Derived.BigQuiet
import Derived.Test.YtfchbdbfokpcdaaDoorSeen
import Derived.Test.YtfchbdbfokpcdaaDoorBase
import Derived.Deep.QuietTactic
import Derived.Test.YtfchbdbfokpcdaaDoorSets
import Derived.Below
import Derived.Lib.Hide
import Derived.OwnWalk
import Derived.Test.YtfchbdbfokpcdaaDoorSetB
import Derived.Test.YtfchbdbfokpcdaaDoorStr
import Derived.DeepKeys3
import Derived.Test.YtfchbdbfokpcdaaDoorBestI
import Derived.Test.YtfchbdbfokpcdaaDoorRing
import Derived.Test.YtfchbdbfokpcdaaDoorSets2
import Derived.Test.YtfchbdbfokpcdaaDoorWatch
import Derived.Shelf.RegionOpen
namespace Go.Proofs.YtfchbdbfokpcdaaDoor
section
open Go Go.RowKit

theorem setRow_same {w : World} {g : Nat} {cs : Array Value} {t : TypeId} (h : Blk w g cs t) : w.setRow g cs = w := by
  have e : (w.setRow g cs).heap = w.heap := by
    apply Array.ext_getElem?
    intro i
    by_cases hi : i = g
    · subst hi
      rw [setRow_heap w i cs cs t _ h]; exact h.symm
    · exact setRow_other w g i cs hi
  show { w with heap := (w.setRow g cs).heap } = w
  rw [e]
section
variable {P : Program} {ops : Array Oper} {C : World → Prop} {Q : Act → Prop} {a : Act} {o : Oper} {rest : List Oper}
theorem quiet_row (ty : TypeId) (x : Operand) (ho : o.op = .load ty x) (b : Nat) (hx : a.eval x = .pointer (some ⟨b, 0, none⟩)) (vs : Array Value) (t : TypeId) (d : TypeDesc) (hw : Region.wanted o (yielded ops a.tmps) = true)
    (hc : ∀ w, C w → Blk w b vs t) (hu : P.underlying ty = some d) (hd : d.isRow = true) (hi : (P.info? ty).map (·.size) = some vs.size)
    (h : wpQuiet P ops C Q rest (a.put o.dst (.agg vs))) : wpQuiet P ops C Q (o :: rest) a :=
  BigFrame.wpQuiet_want hw (fun K hK => ⟨.agg vs, fun w hw' => by
    unfold Oper.quietAt execOp
    simp only [ho, hx, Sem.run_bind, run_loadAt_part w b 0 ty vs d (hc w hw').whole hu hd hi, Result.andThen_ok, Sem.run_pure]
    exact ⟨rfl, rfl⟩, hK _ h⟩)
theorem quiet_store (ty : TypeId) (x y : Operand) (ho : o.op = .store ty x y) (b : Nat) (hx : a.eval x = .pointer (some ⟨b, 0, none⟩)) (vs : Array Value) (hy : a.eval y = .agg vs) (t : TypeId) (hw : Region.wanted o (yielded ops a.tmps) = true)
    (hc : ∀ w, C w → Blk w b vs t) (hi : (P.info? ty).map (·.size) = some vs.size) (h1 : vs.all (·.oneCell') = true)
    (h : wpQuiet P ops C Q rest (a.put o.dst undef)) : wpQuiet P ops C Q (o :: rest) a :=
  BigFrame.wpQuiet_want hw (fun K hK => ⟨undef, fun w hw' => by
    unfold Oper.quietAt execOp
    simp only [ho, hx, hy, Instr.storeAt, Instr.sureAddr, Sem.run_bind, Sem.run_pure, Result.andThen_ok, run_storeVar_row w b t ty vs vs (hc w hw') hi rfl h1, setRow_same (hc w hw')]
    exact ⟨rfl, rfl⟩, hK _ h⟩)
end
end
section
open Go Go.RowKit

/-- A row of yes and no. -/
def bcells (n : Nat) (f : Nat → Bool) : Array Value := ((List.range n).map (fun i => Value.bool (f i))).toArray
theorem bcells_size (n : Nat) (f : Nat → Bool) : (bcells n f).size = n := by simp [bcells]
theorem bcells_get (n : Nat) (f : Nat → Bool) (i : Nat) (h : i < n) : (bcells n f)[i]? = some (.bool (f i)) := by simp [bcells, h]
theorem bcells_ext {n : Nat} {f : Nat → Bool} {cs : Array Value} (hs : cs.size = n) (h : ∀ i, i < n → cs[i]? = some (.bool (f i))) : cs = bcells n f := by
  apply Array.ext_getElem?
  intro j
  by_cases hj : j < n
  · rw [h j hj, bcells_get n f j hj]
  · rw [Array.getElem?_eq_none (by omega), Array.getElem?_eq_none (by rw [bcells_size]; omega)]
theorem bcells_congr {n : Nat} {f g : Nat → Bool} (h : ∀ i, i < n → f i = g i) : bcells n f = bcells n g :=
  bcells_ext (bcells_size n f) (fun i hi => by rw [bcells_get n f i hi, h i hi])
theorem bcells_set (n : Nat) (f : Nat → Bool) (k : Nat) (v : Bool) (hk : k < n) : (bcells n f).setIfInBounds k (.bool v) = bcells n (fun i => if i = k then v else f i) := by
  refine bcells_ext (by simp [bcells_size]) (fun i hi => ?_)
  rw [Array.getElem?_setIfInBounds]
  by_cases e : k = i
  · subst e; rw [if_pos rfl, if_pos (by rw [bcells_size]; exact hk), if_pos rfl]
  · rw [if_neg e, bcells_get n f i hi]
    show _ = some (Value.bool (if i = k then v else f i))
    rw [if_neg (by omega)]
theorem wpList_makeB {P : Program} {ops : Array Oper} {rest : List Oper} {op : Oper} {a : Act} {w : World} {Q : Exit → Act → World → Prop} (hgd : op.guard = none) (t e : TypeId) (x : Operand) (ho : op.op = .makeSlice t x x) (n : Nat) (hx : a.eval x = .int .i64 n)
    (ht : P.underlying t = some (.slice e)) (hi : (P.info? e).map (fun i => (i.zero, i.size, i.bytes)) = some (some (.bool false), 1, 1)) (hn : n ≤ 2 ^ 40)
    (h : wpList P ops Q rest (a.put op.dst (.slice (some ⟨w.heap.size, 0, none⟩) n n)) (w.alloc (.cells (bcells n (fun _ => false)) e))) : wpList P ops Q (op :: rest) a w := by
  obtain ⟨i0, hie, hz, h1, h2⟩ := info_parts hi
  have hr := run_make (P := P) w t e i0 (.bool false) ht hie hz .i64 .i64 n n (by omega) (by omega) (by rw [h2]; omega) (by omega)
  rw [h1, Int.toNat_natCast] at hr
  have e0 : madeCells (Value.bool false).cells (n * 1) = bcells n (fun _ => false) := by
    refine bcells_ext (by rw [size_madeCells, Nat.mul_one]) (fun i hi => ?_)
    have : (madeCells (Value.bool false).cells (n * 1)).toList = List.replicate (n * 1) (Value.bool false) := toList_madeCells_one _ _
    rw [← Array.getElem?_toList, this, Nat.mul_one, List.getElem?_replicate, if_pos hi]
  rw [e0] at hr
  refine wpList_run hgd (v := .slice (some ⟨w.heap.size, 0, none⟩) n n) ?_ h
  unfold execOp
  simp only [ho, hx, Sem.run_bind, hr, Result.andThen_ok, Sem.run_pure]
def seenRow (n : Nat) (g : Nat → Int) (s : Int) (c W k j p : Nat) : Bool := if p < k then seenB n g s c W p else if p = k then seenW n g s c W k j else false
set_option maxHeartbeats 8000000 in
theorem l05Seen_any (n : Nat) (hn1 : 1 ≤ n) (hn2 : n ≤ 40) (g : Nat → Int) (hg : CellsG n g) (s : Int) (hs : 0 ≤ s ∧ s ≤ 50) (cell : Nat) (hc : cell < 100) (W : Nat) (hW : 1 ≤ W ∧ W ≤ 8) (b c : Nat) (w : World) (I : InH w b 0 n g) :
    Calls Tryd.prog 29 #[.slice (some ⟨b, 0, none⟩) n c, .int .i64 s, .int .i64 cell, .int .i64 W] w fun e w' => ∃ b', e = .returned (.slice (some ⟨b', 0, none⟩) n n) ∧ Blk w' b' (bcells n (seenB n g s cell W)) 4 ∧ Below w.heap.size w w' := by
  have HI := Lib.hid I
  have HG := Lib.hid hg
  clear I hg
  obtain ⟨hW1, hW2⟩ := hW
  obtain ⟨hs1, hs2⟩ := hs
  go_enter Tryd.func29, Tryd.ntmps29
  go_wp2_with (refine wpList_makeB rfl 65 4 _ rfl n rfl Tryd.underlying65 (by kernel_rfl) (by omega) ?_)
  obtain ⟨Wo, hWo, M⟩ := open1 w (bcells n (fun _ => false)) 4
  rw [hWo]; clear hWo
  have M0 := Lib.hid M
  clear M
  go_loopw [11, 12, 13] (fun k _ _ wr => ∃ q : Nat, q ≤ n ∧ k = .int .i64 q ∧ Hid (Mem w wr [⟨w.heap.size, bcells n (seenRow n g s cell W q 0), 4⟩])) (fun k _ _ _ => n - (intOf k).toNat)
  case atStart => exact ⟨0, by omega, rfl, Lib.hid (by
    have e : bcells n (seenRow n g s cell W 0 0) = bcells n (fun _ => false) := bcells_congr (fun i _ => by unfold seenRow; rw [if_neg (by omega)]; split <;> rfl)
    rw [e]; exact M0.out)⟩
  case round =>
    clear M0
    obtain ⟨k, hk, rfl, hM⟩ := hrel
    by_cases hlt : k < n
    · go_wp2_with fail
      obtain ⟨wo, hwo⟩ : ∃ wo : World, wo = wr := ⟨_, rfl⟩
      subst hwo
      go_loopw [12, 13] (fun i _ wr => ∃ j : Nat, j ≤ W ∧ i = .int .i64 j ∧ Hid (Mem w wr [⟨w.heap.size, bcells n (seenRow n g s cell W k j), 4⟩])) (fun i _ _ => W - (intOf i).toNat)
      case atStart => exact ⟨0, by omega, rfl, hM⟩
      case round =>
        clear hM
        obtain ⟨j, hj, rfl, hM⟩ := hrel
        by_cases hltj : j < W
        · obtain ⟨m1, m2⟩ := mul_in (i := j) (n := n) (by omega) hn2
          have hq0 := ahead_le hltj hn2 hW2
          have hq1 := ahead_int j n W
          obtain ⟨q, hq⟩ : ∃ q, j * n / W = q := ⟨_, rfl⟩
          rw [hq] at hq0 hq1
          have HQ := Lib.hid hq
          clear hq
          obtain ⟨x, hx⟩ : ∃ x, (k + q) % n = x := ⟨_, rfl⟩
          have hxn : x < n := by rw [← hx]; exact Nat.mod_lt _ (by omega)
          have HX := Lib.hid hx
          have hmod : ((k : Int) + (q : Int)) % (n : Int) = (x : Int) := by rw [← hx, Int.natCast_emod, Int.natCast_add]
          clear hx
          obtain ⟨u, hu⟩ : ∃ u : Nat, g x = (u : Int) := ⟨(g x).toNat, by have := (HG.out x hxn).1; omega⟩
          have hu1 : u < 100 := by have := (HG.out x hxn).2; omega
          have HU := Lib.hid hu
          have d0 := (HI.out.later hM.out.below) x hxn
          rw [Nat.zero_add, hu] at d0
          clear hu
          obtain ⟨y, hy⟩ : ∃ y, sq (u : Int) (cell : Int) = y := ⟨_, rfl⟩
          have HY := Lib.hid hy
          clear hy
          have hval : Hid (sq (g ((k + j * n / W) % n)) cell = y) := Lib.hid (by rw [HQ.out, HX.out, HU.out]; exact HY.out)
          by_cases hle : y ≤ s
          · have c1 := (hM.out.at 0 rfl).cell (bcells_get n (seenRow n g s cell W k j) k hlt)
            have e1 := (hM.out.at 0 rfl).free k
            have M2 := Lib.hid (hM.out.set 0 k (.bool true) rfl _ (bcells_set n (seenRow n g s cell W k j) k true hlt))
            have e2 : Hid (bcells n (fun i => if i = k then true else seenRow n g s cell W k j i) = bcells n (seenRow n g s cell W k (j + 1))) := Lib.hid (bcells_congr (fun i _ => by
              unfold seenRow
              by_cases h1 : i = k
              · subst h1; rw [if_pos rfl, if_neg (by omega), if_pos rfl, seenW_yes (Nat.lt_succ_self j) (by rw [hval.out]; exact hle)]
              · rw [if_neg h1]
                by_cases h2 : i < k
                · rw [if_pos h2, if_pos h2]
                · rw [if_neg h2, if_neg h2, if_neg h1, if_neg h1]))
            go_wp2_with (go_at_call 46; refine (l01Square_any u cell hu1 hc _).mono ?_; rintro e w' ⟨rfl, rfl⟩; rw [HY.out])
            clear hq1 hmod
            go_roundw
            case rel => exact ⟨j + 1, by omega, by go_num, Lib.hid (by rw [← e2.out]; exact M2.out)⟩
            case measure => simp [intOf]; omega
          · have hd : decide (y ≤ s) = false := decide_eq_false hle
            have e2 : Hid (bcells n (seenRow n g s cell W k j) = bcells n (seenRow n g s cell W k (j + 1))) := Lib.hid (bcells_congr (fun i _ => by
              unfold seenRow
              by_cases h2 : i < k
              · rw [if_pos h2, if_pos h2]
              · rw [if_neg h2, if_neg h2]
                by_cases h1 : i = k
                · rw [if_pos h1, if_pos h1, seenW, hval.out, hd, Bool.or_false]
                · rw [if_neg h1, if_neg h1]))
            go_wp2_with (go_at_call 46; refine (l01Square_any u cell hu1 hc _).mono ?_; rintro e w' ⟨rfl, rfl⟩; rw [HY.out])
            clear hq1 hmod
            go_roundw
            case rel => exact ⟨j + 1, by omega, by go_num, Lib.hid (by rw [← e2.out]; exact hM.out)⟩
            case measure => simp [intOf]; omega
        · obtain rfl : j = W := by omega
          have e2 : Hid (bcells n (seenRow n g s cell j k j) = bcells n (seenRow n g s cell j (k + 1) 0)) := Lib.hid (bcells_congr (fun i _ => by
            unfold seenRow
            by_cases h2 : i < k
            · rw [if_pos h2, if_pos (by omega)]
            · rw [if_neg h2]
              by_cases h1 : i = k
              · subst h1; rw [if_pos rfl, if_pos (by omega)]; rfl
              · rw [if_neg h1, if_neg (by omega)]; split <;> rfl))
          go_wp2_with fail
          go_roundw
          case rel => exact ⟨k + 1, by omega, by go_num, Lib.hid (by rw [← e2.out]; exact hM.out)⟩
          case measure => simp [intOf]; omega
    · obtain rfl : k = n := by omega
      have e2 : Hid (bcells k (seenRow k g s cell W k 0) = bcells k (seenB k g s cell W)) := Lib.hid (bcells_congr (fun i hi => by unfold seenRow; rw [if_pos hi]))
      go_wp2_with fail
      go_ret
      exact ⟨_, rfl, by rw [← e2.out]; exact hM.out.at 0 rfl, hM.out.below⟩
end
section
open Go Go.RowKit

/-- How far it is to the next minute that is seen, from m on. -/
def stepD (n : Nat) (S : Nat → Bool) (k : Nat) : Nat → Nat → Nat
  | 0, m => m
  | fu + 1, m => if S ((k + m) % n) then m else stepD n S k fu (m + 1)
def dOf (n : Nat) (S : Nat → Bool) (k : Nat) : Nat := stepD n S k n 1
theorem stepD_eq {n : Nat} {S : Nat → Bool} {k m : Nat} (hm : S ((k + m) % n) = true) : ∀ (fu m' : Nat), m' ≤ m → m < m' + fu → (∀ q, m' ≤ q → q < m → S ((k + q) % n) = false) → stepD n S k fu m' = m
  | 0, m', h1, h2, _ => by omega
  | fu + 1, m', h1, h2, h3 => by
    rw [stepD]
    by_cases e : m' = m
    · subst e; rw [if_pos hm]
    · rw [if_neg (by rw [h3 m' (by omega) (by omega)]; exact Bool.false_ne_true)]
      exact stepD_eq hm fu (m' + 1) (by omega) (by omega) (fun q h4 h5 => h3 q (by omega) h5)
theorem dOf_eq {n : Nat} {S : Nat → Bool} {k m : Nat} (h1 : 1 ≤ m) (h2 : m ≤ n) (hm : S ((k + m) % n) = true) (h3 : ∀ q, 1 ≤ q → q < m → S ((k + q) % n) = false) : dOf n S k = m :=
  stepD_eq hm n 1 h1 (by omega) h3
def gmax (n : Nat) (S : Nat → Bool) : Nat → Nat
  | 0 => 0
  | k + 1 => if S k then max (gmax n S k) (dOf n S k) else gmax n S k
theorem gmax_yes {n : Nat} {S : Nat → Bool} {k : Nat} (h : S k = true) : gmax n S (k + 1) = max (gmax n S k) (dOf n S k) := by rw [gmax, if_pos h]
theorem gmax_no {n : Nat} {S : Nat → Bool} {k : Nat} (h : S k = false) : gmax n S (k + 1) = gmax n S k := by rw [gmax, if_neg (by rw [h]; exact Bool.false_ne_true)]
theorem gmax_le {n : Nat} {S : Nat → Bool} {G : Nat} : ∀ {k : Nat}, (∀ p, p < k → S p = true → dOf n S p ≤ G) → gmax n S k ≤ G
  | 0, _ => Nat.zero_le _
  | k + 1, h => by
    have ih := gmax_le (k := k) (fun p hp hs => h p (by omega) hs)
    cases q : S k with
    | true => rw [gmax_yes q]; have := h k (by omega) q; omega
    | false => rw [gmax_no q]; exact ih
theorem gmax_ge {n : Nat} {S : Nat → Bool} {p : Nat} (hs : S p = true) : ∀ {k : Nat}, p < k → dOf n S p ≤ gmax n S k
  | 0, h => by omega
  | k + 1, h => by
    by_cases e : p = k
    · subst e; rw [gmax_yes hs]; omega
    · have ih := gmax_ge (n := n) hs (k := k) (by omega)
      cases q : S k with
      | true => rw [gmax_yes q]; omega
      | false => rw [gmax_no q]; exact ih
theorem gmax_none {n : Nat} {S : Nat → Bool} : ∀ {k : Nat}, (∀ p, p < k → S p = false) → gmax n S k = 0
  | 0, _ => rfl
  | k + 1, h => by rw [gmax_no (h k (by omega)), gmax_none (k := k) (fun p hp => h p (by omega))]
/-- The minutes below k that are seen. -/
def minS (S : Nat → Bool) : Nat → List Int
  | 0 => []
  | k + 1 => if S k then minS S k ++ [(k : Int)] else minS S k
theorem minS_yes {S : Nat → Bool} {k : Nat} (h : S k = true) : minS S (k + 1) = minS S k ++ [(k : Int)] := by rw [minS, if_pos h]
theorem minS_no {S : Nat → Bool} {k : Nat} (h : S k = false) : minS S (k + 1) = minS S k := by rw [minS, if_neg (by rw [h]; exact Bool.false_ne_true)]
theorem minS_at {S : Nat → Bool} {i : Nat} : ∀ {n : Nat}, i < (minS S n).length → ∃ m, m < n ∧ S m = true ∧ (minS S n)[i]? = some (m : Int) ∧ (minS S m).length = i
  | 0, h => by simp [minS] at h
  | n + 1, h => by
    cases q : S n with
    | false =>
      rw [minS_no q] at h ⊢
      obtain ⟨m, h1, h2, h3, h4⟩ := minS_at h
      exact ⟨m, by omega, h2, h3, h4⟩
    | true =>
      rw [minS_yes q] at h ⊢
      by_cases e : i < (minS S n).length
      · obtain ⟨m, h1, h2, h3, h4⟩ := minS_at e
        exact ⟨m, by omega, h2, by rw [List.getElem?_append_left e]; exact h3, h4⟩
      · have e2 : i = (minS S n).length := by simp at h; omega
        refine ⟨n, by omega, q, ?_, e2.symm⟩
        rw [List.getElem?_append_right (by omega), e2]; simp
theorem minS_mono {S : Nat → Bool} {a : Nat} : ∀ {b : Nat}, a ≤ b → (minS S a).length ≤ (minS S b).length
  | 0, h => by obtain rfl : a = 0 := by omega
               exact Nat.le_refl _
  | b + 1, h => by
    by_cases e : a = b + 1
    · subst e; exact Nat.le_refl _
    · have ih := minS_mono (S := S) (a := a) (b := b) (by omega)
      cases q : S b with
      | true => rw [minS_yes q, List.length_append]; omega
      | false => rw [minS_no q]; exact ih
theorem minS_same {S : Nat → Bool} {a b : Nat} (h : (minS S a).length = (minS S b).length) {q : Nat} (h1 : a ≤ q) (h2 : q < b) : S q = false := by
  cases e : S q with
  | false => rfl
  | true =>
    have h3 := minS_mono (S := S) (show q + 1 ≤ b by omega)
    have h4 := minS_mono (S := S) h1
    rw [minS_yes e, List.length_append] at h3
    simp at h3
    omega
theorem minS_nil {S : Nat → Bool} {n : Nat} (h : (minS S n).length = 0) {p : Nat} (hp : p < n) : S p = false := minS_same (a := 0) (by rw [h]; rfl) (Nat.zero_le _) hp
/-- The last minute that is seen. -/
theorem minS_last {S : Nat → Bool} {n : Nat} (h : 0 < (minS S n).length) : ∃ l, l < n ∧ S l = true ∧ (∀ q, l < q → q < n → S q = false) ∧ (minS S n)[(minS S n).length - 1]? = some (l : Int) := by
  obtain ⟨m, h1, h2, h3, h4⟩ := minS_at (S := S) (n := n) (i := (minS S n).length - 1) (by omega)
  refine ⟨m, h1, h2, fun q hq1 hq2 => ?_, h3⟩
  refine minS_same (a := m + 1) (b := n) ?_ (by omega) hq2
  rw [minS_yes h2, List.length_append]
  simp; omega
/-- The minute before the minute k, one round earlier if there is none. -/
def prevP (n : Nat) (S : Nat → Bool) (k : Nat) (b : Int) : Prop :=
  (∃ p : Nat, p < k ∧ S p = true ∧ (∀ q, p < q → q < k → S q = false) ∧ b = (p : Int)) ∨ ((∀ q, q < k → S q = false) ∧ ∃ l : Nat, l < n ∧ S l = true ∧ (∀ q, l < q → q < n → S q = false) ∧ b = (l : Int) - (n : Int))
/-- Whether the next minute behind p has come. -/
def closedP (n : Nat) (S : Nat → Bool) (k p : Nat) : Prop := p < n ∧ S p = true ∧ ((∃ q, p < q ∧ q < k ∧ S q = true) ∨ ((∀ q, p < q → q < n → S q = false) ∧ ∃ q, q < k ∧ S q = true))
def gapP (n : Nat) (S : Nat → Bool) (k G : Nat) : Prop := (∀ p, closedP n S k p → dOf n S p ≤ G) ∧ (G = 0 ∨ ∃ p, closedP n S k p ∧ dOf n S p = G)
theorem gapP_zero (n : Nat) (S : Nat → Bool) : gapP n S 0 0 :=
  ⟨fun p h => by rcases h.2.2 with ⟨q, _, h2, _⟩ | ⟨_, q, h2, _⟩ <;> omega, .inl rfl⟩
theorem closedP_mono {n : Nat} {S : Nat → Bool} {k k' p : Nat} (hk : k ≤ k') (h : closedP n S k p) : closedP n S k' p := by
  obtain ⟨h1, h2, h3⟩ := h
  refine ⟨h1, h2, ?_⟩
  rcases h3 with ⟨q, a, b, c⟩ | ⟨a, q, b, c⟩
  · exact .inl ⟨q, a, by omega, c⟩
  · exact .inr ⟨a, q, by omega, c⟩
/-- A minute comes. -/
theorem gap_step {n : Nat} {S : Nat → Bool} {k m : Nat} {b : Int} {G : Nat} (hkm : k ≤ m) (hm : m < n) (hs : S m = true) (hno : ∀ q, k ≤ q → q < m → S q = false) (hp : prevP n S k b) (hg : gapP n S k G) :
    ∃ d : Nat, (m : Int) - b = (d : Int) ∧ d ≤ n ∧ prevP n S (m + 1) m ∧ gapP n S (m + 1) (max G d) := by
  have hprev : prevP n S (m + 1) m := .inl ⟨m, by omega, hs, fun q h1 h2 => by omega, rfl⟩
  rcases hp with ⟨p, p1, p2, p3, rfl⟩ | ⟨h0, l, l1, l2, l3, rfl⟩
  · have hpm : p < m := by omega
    have hd : dOf n S p = m - p := dOf_eq (by omega) (by omega) (by rw [show p + (m - p) = m by omega, Nat.mod_eq_of_lt hm]; exact hs) (fun q q1 q2 => by
      rw [Nat.mod_eq_of_lt (by omega)]
      by_cases e : p + q < k
      · exact p3 _ (by omega) e
      · exact hno _ (by omega) (by omega))
    refine ⟨m - p, by omega, by omega, hprev, fun x hx => ?_, ?_⟩
    · obtain ⟨x1, x2, x3⟩ := hx
      by_cases hc : closedP n S k x
      · have := hg.1 x hc; omega
      · have : x = p := by
          rcases x3 with ⟨q, a, c, e⟩ | ⟨a, q, c, e⟩
          · by_cases hqk : q < k
            · exact absurd ⟨x1, x2, .inl ⟨q, a, hqk, e⟩⟩ hc
            · by_cases hqm : q < m
              · rw [hno q (by omega) hqm] at e; cases e
              · have hxk : x < k := by
                  by_cases hh : x < k
                  · exact hh
                  · rw [hno x (by omega) (by omega)] at x2; cases x2
                by_cases h1 : x < p
                · exact absurd ⟨x1, x2, .inl ⟨p, h1, p1, p2⟩⟩ hc
                · by_cases h2 : p < x
                  · rw [p3 x h2 hxk] at x2; cases x2
                  · omega
          · exact absurd ⟨x1, x2, .inr ⟨a, p, p1, p2⟩⟩ hc
        subst this
        rw [hd]; omega
    · by_cases h : G ≤ m - p
      · exact .inr ⟨p, ⟨by omega, p2, .inl ⟨m, hpm, by omega, hs⟩⟩, by rw [hd]; omega⟩
      · rcases hg.2 with h0 | ⟨x, hx, he⟩
        · omega
        · exact .inr ⟨x, closedP_mono (by omega) hx, by rw [he]; omega⟩
  · have hml : m ≤ l := by
      by_cases h : m ≤ l
      · exact h
      · rw [l3 m (by omega) hm] at hs; cases hs
    have hd : dOf n S l = m + n - l := dOf_eq (by omega) (by omega) (by rw [show l + (m + n - l) = m + n by omega, Nat.add_mod_right, Nat.mod_eq_of_lt hm]; exact hs) (fun q q1 q2 => by
      by_cases e : l + q < n
      · rw [Nat.mod_eq_of_lt e]; exact l3 _ (by omega) e
      · rw [show l + q = (l + q - n) + n by omega, Nat.add_mod_right, Nat.mod_eq_of_lt (by omega)]
        by_cases e2 : l + q - n < k
        · exact h0 _ e2
        · exact hno _ (by omega) (by omega))
    refine ⟨m + n - l, by omega, by omega, hprev, fun x hx => ?_, ?_⟩
    · obtain ⟨x1, x2, x3⟩ := hx
      have hxm : m ≤ x := by
        by_cases h : m ≤ x
        · exact h
        · by_cases h2 : x < k
          · rw [h0 x h2] at x2; cases x2
          · rw [hno x (by omega) (by omega)] at x2; cases x2
      have : x = l := by
        rcases x3 with ⟨q, a, c, e⟩ | ⟨a, q, c, e⟩
        · omega
        · by_cases h1 : x < l
          · rw [a l h1 l1] at l2; cases l2
          · by_cases h2 : l < x
            · rw [l3 x h2 x1] at x2; cases x2
            · omega
      subst this
      rw [hd]; omega
    · by_cases h : G ≤ m + n - l
      · exact .inr ⟨l, ⟨l1, l2, .inr ⟨l3, m, by omega, hs⟩⟩, by rw [hd]; omega⟩
      · rcases hg.2 with h0 | ⟨x, hx, he⟩
        · omega
        · exact .inr ⟨x, closedP_mono (by omega) hx, by rw [he]; omega⟩
theorem gap_end {n : Nat} {S : Nat → Bool} {k G : Nat} (hno : ∀ q, k ≤ q → q < n → S q = false) (hg : gapP n S k G) : gmax n S n = G := by
  have h1 : gmax n S n ≤ G := gmax_le (fun p hp hs => hg.1 p ⟨hp, hs, by
    by_cases h : ∃ q, p < q ∧ q < n ∧ S q = true
    · obtain ⟨q, a, b, c⟩ := h
      refine .inl ⟨q, a, ?_, c⟩
      by_cases h : q < k
      · exact h
      · rw [hno q (by omega) b] at c; cases c
    · refine .inr ⟨fun q a b => ?_, p, ?_, hs⟩
      · cases e : S q with
        | false => rfl
        | true => exact absurd ⟨q, a, b, e⟩ h
      · by_cases h : p < k
        · exact h
        · rw [hno p (by omega) hp] at hs; cases hs⟩)
  rcases hg.2 with h0 | ⟨x, hx, he⟩
  · omega
  · have := gmax_ge (n := n) hx.2.1 hx.1
    omega
theorem dOf_in {n : Nat} {S : Nat → Bool} {k : Nat} (hk : k < n) (hs : S k = true) : 1 ≤ dOf n S k ∧ dOf n S k ≤ n ∧ S ((k + dOf n S k) % n) = true ∧ ∀ q, 1 ≤ q → q < dOf n S k → S ((k + q) % n) = false := by
  have key : ∀ (m : Nat), m ≤ n → (∀ q, 1 ≤ q → q < m → S ((k + q) % n) = false) → 1 ≤ m → (∃ d, m ≤ d ∧ d ≤ n ∧ S ((k + d) % n) = true ∧ ∀ q, 1 ≤ q → q < d → S ((k + q) % n) = false) := by
    intro m hm
    induction h : n - m generalizing m with
    | zero =>
      intro h1 h2
      obtain rfl : m = n := by omega
      exact ⟨m, Nat.le_refl _, Nat.le_refl _, by rw [Nat.add_mod_right, Nat.mod_eq_of_lt hk]; exact hs, h1⟩
    | succ r ih =>
      intro h1 h2
      cases e : S ((k + m) % n) with
      | true => exact ⟨m, Nat.le_refl _, hm, e, h1⟩
      | false =>
        obtain ⟨d, d1, d2⟩ := ih (m + 1) (by omega) (by omega) (fun q q1 q2 => by
          by_cases e2 : q = m
          · subst e2; exact e
          · exact h1 q q1 (by omega)) (by omega)
        exact ⟨d, by omega, d2⟩
  obtain ⟨d, d1, d2, d3, d4⟩ := key 1 (by omega) (fun q q1 q2 => by omega) (Nat.le_refl _)
  have e := dOf_eq d1 d2 d3 d4
  rw [e]
  exact ⟨d1, d2, d3, d4⟩
theorem gmax_bound {n : Nat} {S : Nat → Bool} : ∀ {k : Nat}, k ≤ n → gmax n S k ≤ n := fun {k} hk => gmax_le (fun p hp hs => (dOf_in (by omega) hs).2.1)
theorem gmax_pos {n : Nat} {S : Nat → Bool} {p : Nat} (hp : p < n) (hs : S p = true) : 0 < gmax n S n := by
  have h1 := gmax_ge (n := n) hs hp
  have h2 := (dOf_in hp hs).1
  omega
end
section
open Go Go.RowKit

theorem minL_S (n : Nat) (g : Nat → Int) (s : Int) (c W : Nat) : ∀ k, minL n g s c W k = minS (seenB n g s c W) k
  | 0 => rfl
  | k + 1 => by rw [minL, minS, minL_S n g s c W k]
theorem mxMax_any (a b : Int) (w : World) : Calls Tryd.prog 30 #[.int .i64 a, .int .i64 b] w fun e w' => e = .returned (.int .i64 (max a b)) ∧ w = w' := by
  by_cases h : b < a
  · go_enter Tryd.func30, Tryd.ntmps30
    go_wp2_with fail
    go_ret
    exact ⟨ret_int (by omega), rfl⟩
  · have hd : decide (b < a) = false := decide_eq_false h
    go_enter Tryd.func30, Tryd.ntmps30
    go_wp2_with fail
    go_ret
    exact ⟨ret_int (by omega), rfl⟩
set_option maxHeartbeats 8000000 in
theorem l05Gap_any (n : Nat) (hn1 : 1 ≤ n) (hn2 : n ≤ 40) (g : Nat → Int) (hg : CellsG n g) (s : Int) (hs : 0 ≤ s ∧ s ≤ 50) (cell : Nat) (hc : cell < 100) (W : Nat) (hW : 1 ≤ W ∧ W ≤ 8) (b c : Nat) (w : World) (I : InH w b 0 n g) :
    Calls Tryd.prog 21 #[.slice (some ⟨b, 0, none⟩) n c, .int .i64 s, .int .i64 cell, .int .i64 W] w fun e w' => e = .returned (.int .i64 (gmax n (seenB n g s cell W) n : Nat)) ∧ Below w.heap.size w w' := by
  obtain ⟨S, hS⟩ : ∃ S, seenB n g s cell W = S := ⟨_, rfl⟩
  go_enter Tryd.func21, Tryd.ntmps21
  go_wp2_with (go_at_call 29; refine (l05Seen_any n hn1 hn2 g hg s hs cell hc W hW b c _ I).mono ?_; rintro e w1 ⟨b', rfl, hB, hb⟩; rw [hS] at hB; have HB := Lib.hid hB; have HBE := Lib.hid hb; clear hB hb)
  have HS := Lib.hid hS
  clear hS
  go_loop [10, 11, 12] (fun v i _ => ∃ k : Nat, k ≤ n ∧ i = .int .i64 k ∧ v = .int .i64 ((gmax n S k : Nat) : Int)) (fun _ i _ => n - (intOf i).toNat)
  case atStart => exact ⟨0, by omega, rfl, rfl⟩
  case round =>
    obtain ⟨k, hk, rfl, rfl⟩ := hrel
    by_cases hlt : k < n
    · have c0 := HB.out.cell (bcells_get n S k hlt)
      cases hq : S k with
      | false =>
        rw [hq] at c0
        have e := Lib.hid (gmax_no (n := n) hq)
        go_wp2_with fail
        go_round
        case rel => exact ⟨k + 1, by omega, by go_num, by rw [e.out]⟩
        case measure => simp [intOf]; omega
      | true =>
        rw [hq] at c0
        have e := Lib.hid (gmax_yes (n := n) hq)
        obtain ⟨d1, d2, d3, d4⟩ := dOf_in hlt hq
        obtain ⟨d, hd⟩ : ∃ d, dOf n S k = d := ⟨_, rfl⟩
        rw [hd] at d1 d2 d3 d4 e
        have HD4 := Lib.hid d4
        have HD3 := Lib.hid d3
        have gb := gmax_bound (S := S) (k := k) (n := n) (by omega)
        obtain ⟨G, hG⟩ : ∃ G, gmax n S k = G := ⟨_, rfl⟩
        rw [hG] at e gb
        have HG := Lib.hid hG
        rw [hG]
        clear hd d4 d3 hG hq
        go_wp2_with fail
        go_loop [12] (fun m => ∃ q : Nat, 1 ≤ q ∧ q ≤ d ∧ m = .int .i64 q) (fun m => d - (intOf m).toNat)
        case atStart => exact ⟨1, by omega, d1, rfl⟩
        case round =>
          obtain ⟨q, hq1, hq2, rfl⟩ := hrel
          obtain ⟨x, hx⟩ : ∃ x, (k + q) % n = x := ⟨_, rfl⟩
          have hxn : x < n := by rw [← hx]; exact Nat.mod_lt _ (by omega)
          have hmod : ((k : Int) + (q : Int)) % (n : Int) = (x : Int) := by rw [← hx, Int.natCast_emod, Int.natCast_add]
          have c1 := HB.out.cell (bcells_get n S x hxn)
          have HX := Lib.hid hx
          clear hx
          by_cases hqd : q < d
          · rw [show S x = false by rw [← HX.out]; exact HD4.out q hq1 hqd] at c1
            go_wp2_with fail
            clear hmod
            go_round
            case rel => exact ⟨q + 1, by omega, by omega, by go_num⟩
            case measure => simp [intOf]; omega
          · obtain rfl : q = d := by omega
            rw [show S x = true by rw [← HX.out]; exact HD3.out] at c1
            go_wp2_with (go_at_call 30; refine (mxMax_any _ _ _).mono ?_; rintro e w' ⟨rfl, rfl⟩)
            clear hmod
            go_round
            case rel => exact ⟨k + 1, by omega, by go_num, by rw [e.out]; congr 1; omega⟩
            case measure => simp [intOf]; omega
    · obtain rfl : k = n := by omega
      go_wp2_with fail
      go_ret
      exact ⟨by rw [HS.out]; rfl, HBE.out⟩
set_option maxHeartbeats 8000000 in
theorem gapOf_any (n : Nat) (hn1 : 1 ≤ n) (hn2 : n ≤ 40) (g : Nat → Int) (hg : CellsG n g) (s : Int) (hs : 0 ≤ s ∧ s ≤ 50) (cell : Nat) (hc : cell < 100) (W : Nat) (hW : 1 ≤ W ∧ W ≤ 8) (b c : Nat) (w : World) (I : InH w b 0 n g) :
    Calls Tryd.prog 25 #[.slice (some ⟨b, 0, none⟩) n c, .int .i64 s, .int .i64 cell, .int .i64 W] w fun e w' => e = .returned (.int .i64 (gmax n (seenB n g s cell W) n : Nat)) ∧ Below w.heap.size w w' := by
  obtain ⟨S, hS⟩ : ∃ S, seenB n g s cell W = S := ⟨_, rfl⟩
  have hLe : minL n g s cell W n = minS S n := by rw [minL_S, hS]
  have HLe := Lib.hid hLe
  have hlen := minL_le n g s cell W n
  rw [hLe] at hlen
  have HS := Lib.hid hS
  clear hS hLe
  obtain ⟨L, hL⟩ : ∃ L, minS S n = L := ⟨_, rfl⟩
  have HL := Lib.hid hL
  rw [hL] at hlen
  clear hL
  obtain ⟨r, hr⟩ : ∃ r, L.length = r := ⟨_, rfl⟩
  rw [hr] at hlen
  have HR := Lib.hid hr
  clear hr
  by_cases hr0 : r = 0
  · subst hr0
    have hz : Hid (gmax n (seenB n g s cell W) n = 0) := Lib.hid (by rw [HS.out]; exact gmax_none (fun p hp => minS_nil (by rw [HL.out]; exact HR.out) hp))
    go_enter Tryd.func25, Tryd.ntmps25
    go_wp2_with (go_at_call 36; refine (minutesOf_any n hn1 hn2 g hg s hs cell hc W hW b c _ I).mono ?_; rintro e w1 ⟨v, rfl, ho, hb⟩; rw [HLe.out, HL.out, HR.out] at ho; obtain ⟨p, cp, rfl, _, _⟩ := Nown HR.out ho; have HBE := Lib.hid hb; clear ho hb)
    go_ret
    exact ⟨by rw [hz.out]; rfl, HBE.out⟩
  · obtain ⟨l, l1, l2, l3, l4⟩ := minS_last (S := S) (n := n) (by rw [HL.out, HR.out]; omega)
    rw [HL.out, HR.out] at l4
    have HL2 := Lib.hid l2
    have HL3 := Lib.hid l3
    have HL4 := Lib.hid l4
    have hre : ((r : Int) == 0) = false := by simpa using hr0
    have hri : (r : Int) - 1 = ((r - 1 : Nat) : Int) := by omega
    have hri2 : r - 1 < r := by omega
    clear l2 l3 l4
    go_enter Tryd.func25, Tryd.ntmps25
    go_upto_region 4 with (go_at_call 36; refine (minutesOf_any n hn1 hn2 g hg s hs cell hc W hW b c _ I).mono ?_; rintro e w1 ⟨v, rfl, ho, hb⟩; rw [HLe.out, HL.out, HR.out] at ho; obtain ⟨p, cp, rfl, hV, _⟩ := Nown HR.out ho; have HV := Lib.hid hV; have HBE := Lib.hid hb; clear ho hb hV)
    obtain ⟨bb, oo, rfl, _, _, hcell⟩ : ∃ bb oo, p = some ⟨bb, oo, none⟩ ∧ w.heap.size ≤ bb ∧ bb < w1.heap.size ∧ ∀ i, i < r → w1.cell? ⟨bb, oo + i, none⟩ = some (.int .i64 (L.getD i 0)) := by
      rcases HV.out with h0 | ⟨bb, oo, h1, h2, h3, h4⟩
      · exact absurd h0 hr0
      · exact ⟨bb, oo, h1, h2, h3, h4⟩
    have HC := Lib.hid hcell
    have c0 := hcell (r - 1) hri2
    rw [show L.getD (r - 1) 0 = (l : Int) by rw [List.getD_eq_getElem?_getD, HL4.out]; rfl] at c0
    clear hcell
    go_quiet ((go_at_call 37; exact Calls.quiet_of_same ((length_any _ n c _).mono (fun e w9 h9 => ⟨h9.1, h9.2.symm⟩))))
    clear c0 hri hri2 hre
    rename_i nq
    obtain ⟨W2, hW2⟩ : ∃ W2, w1.drewN nq = W2 := ⟨_, rfl⟩
    have HC2 : Hid (∀ i, i < r → W2.cell? ⟨bb, oo + i, none⟩ = some (.int .i64 (L.getD i 0))) := Lib.hid (by rw [← hW2]; exact HC.out)
    have HB2 : Hid (Below w.heap.size w W2) := Lib.hid (by rw [← hW2]; exact below_drewN _ HBE.out)
    rw [hW2]
    clear hW2 HC HBE
    go_wp2_with fail
    go_loop [10, 11, 13, 33] (fun bv gv _ i => ∃ (j k : Nat) (bI : Int) (G : Nat), j ≤ r ∧ i = .int .i64 j ∧ bv = .int .i64 bI ∧ gv = .int .i64 (G : Int) ∧ k ≤ n ∧ -40 ≤ bI ∧ bI ≤ 40 ∧ G ≤ 40 ∧ Hid ((minS S k).length = j) ∧ Hid (prevP n S k bI) ∧ Hid (gapP n S k G)) (fun _ _ _ i => r - (intOf i).toNat)
    case atStart => exact ⟨0, 0, (l : Int) - (n : Int), 0, by omega, rfl, rfl, rfl, by omega, by omega, by omega, by omega, Lib.hid rfl, Lib.hid (.inr ⟨fun q hq => by omega, l, l1, HL2.out, HL3.out, rfl⟩), Lib.hid (gapP_zero n S)⟩
    case round =>
      obtain ⟨j, k, bI, G, hj, rfl, rfl, rfl, hk, hb1, hb2, hG, hjk, hP, hGP⟩ := hrel
      by_cases hlt : j < r
      · obtain ⟨m, m1, m2, m3, m4⟩ := minS_at (S := S) (n := n) (i := j) (by rw [HL.out, HR.out]; exact hlt)
        have c0 := HC2.out j hlt
        rw [show L.getD j 0 = (m : Int) by rw [List.getD_eq_getElem?_getD, ← HL.out, m3]; rfl] at c0
        have hkm : k ≤ m := by
          by_cases h : k ≤ m
          · exact h
          · have h1 := minS_mono (S := S) (show m + 1 ≤ k by omega)
            rw [minS_yes m2, List.length_append, hjk.out, m4, List.length_singleton] at h1
            omega
        obtain ⟨d, e1, e2, e3, e4⟩ := gap_step hkm m1 m2 (fun q q1 q2 => minS_same (hjk.out.trans m4.symm) q1 q2) hP.out hGP.out
        have E3 := Lib.hid e3
        have E4 := Lib.hid e4
        have E5 : Hid ((minS S (m + 1)).length = j + 1) := Lib.hid (by rw [minS_yes m2, List.length_append, m4]; rfl)
        clear m2 m3 m4 e3 e4 hjk hP hGP
        go_wp2_with fail
        go_round
        case rel => exact ⟨j + 1, m + 1, (m : Int), max G d, by omega, by go_num, rfl, by congr 1; split <;> omega, by omega, by omega, by omega, by omega, E5, E3, E4⟩
        case measure => simp [intOf]; omega
      · obtain rfl : j = r := by omega
        have hz : Hid (gmax n (seenB n g s cell W) n = G) := Lib.hid (by rw [HS.out]; exact gap_end (fun q q1 q2 => minS_same (by rw [hjk.out, HL.out, HR.out]) q1 q2) hGP.out)
        go_wp2_with fail
        go_ret
        exact ⟨by rw [hz.out]; rfl, HB2.out⟩
end
section
open Go Go.RowKit

def hlist (f : Nat → Int) (k : Nat) : List Int := ((List.range k).filter (fun c : Nat => hasC f (c : Int))).map (fun c : Nat => (c : Int))
theorem hlist_hit {f : Nat → Int} {k : Nat} (h : hasC f (k : Int) = true) : hlist f (k + 1) = hlist f k ++ [(k : Int)] := by
  simp [hlist, List.range_succ, List.filter_append, h]
theorem hlist_miss {f : Nat → Int} {k : Nat} (h : hasC f (k : Int) = false) : hlist f (k + 1) = hlist f k := by
  simp [hlist, List.range_succ, List.filter_append, h]
theorem hlist_le (f : Nat → Int) (k : Nat) : (hlist f k).length ≤ k := by
  have := List.length_filter_le (fun c : Nat => hasC f (c : Int)) (List.range k)
  simpa [hlist] using this
theorem infoI64 : (Tryd.prog.info? 2).map (fun i => (i.zero, i.size, i.bytes)) = some (some (.int .i64 0), 1, 8) := by kernel_rfl
theorem list_keep {f : Nat → Int} {k n₀ : Nat} {w wr w1 : World} {v v' : Value} {o : Obj} (h : hasC f (k : Int) = true) (hn : n₀ = w.heap.size)
    (hown : wr.ownsRow n₀ 2 1 v (hlist f k).length ((hlist f k).map (Value.int .i64))) (hnx : Below n₀ w wr)
    (hown' : w1.ownsRow n₀ 2 1 v' ((hlist f k).length + 1) ((hlist f k).map (Value.int .i64) ++ [.int .i64 k])) (hgrow : (wr.alloc o).grownBy w1 v.ownBlock) :
    w1.ownsRow n₀ 2 1 v' (hlist f (k + 1)).length ((hlist f (k + 1)).map (Value.int .i64)) ∧ Below n₀ w w1 := by
  have hsz := hnx.size
  refine ⟨by rw [hlist_hit h]; simpa using hown', (hnx.alloc (by omega) o).grown hgrow (by simp; omega) (fun j hj => (hown.lt j hj).1)⟩

end
section
open Go Go.RowKit

def andn (a b : Nat) : Nat := (BitVec.ofInt 64 (a : Int) &&& ~~~ BitVec.ofInt 64 (b : Int)).toNat
theorem andn_lt (a b : Nat) : andn a b < 18446744073709551616 := by
  have := (BitVec.ofInt 64 (a : Int) &&& ~~~ BitVec.ofInt 64 (b : Int)).isLt
  unfold andn; rw [p64]; exact this
theorem andn_bit (a b k : Nat) (hk : k < 64) : (andn a b).testBit k = (a.testBit k && !b.testBit k) := by
  unfold andn
  rw [BitVec.testBit_toNat, BitVec.getLsbD_and, BitVec.getLsbD_not, BitVec.ofInt_natCast, BitVec.ofInt_natCast, BitVec.getLsbD_ofNat, BitVec.getLsbD_ofNat]
  simp [hk]
theorem bits_andn (a b : Nat) : bits .andNot .u64 (a : Int) (b : Int) = ((andn a b : Nat) : Int) := by
  have hx := andn_lt a b
  show IntKind.u64.wrap ((BitVec.ofInt 64 (a : Int) &&& ~~~ BitVec.ofInt 64 (b : Int)).toNat : Int) = _
  change IntKind.u64.wrap ((andn a b : Nat) : Int) = _
  rw [IntKind.wrap_u64]
  omega
theorem andn_le (a b : Nat) (ha : a < 18446744073709551616) : andn a b ≤ a := by
  apply Nat.le_of_testBit
  intro i hi
  by_cases h : i < 64
  · rw [andn_bit a b i h] at hi
    simp only [Bool.and_eq_true] at hi
    exact hi.1
  · have hl := andn_lt a b
    rw [p64] at hl
    rw [Nat.testBit_lt_two_pow (Nat.lt_of_lt_of_le hl (Nat.pow_le_pow_right (by omega) (by omega)))] at hi
    cases hi
theorem less_nat {f g : Nat → Int} (hf : U64 f) (hg : U64 g) (i : Nat) : ∃ a b : Nat, f i = (a : Int) ∧ g i = (b : Int) ∧ a < 18446744073709551616 ∧ b < 18446744073709551616 ∧ joinC .andNot f g i = ((andn a b : Nat) : Int) := by
  obtain ⟨a, ea, ha⟩ := nat_of hf i
  obtain ⟨b, eb, hb⟩ := nat_of hg i
  exact ⟨a, b, ea, eb, ha, hb, by show bits .andNot .u64 (f i) (g i) = _; rw [ea, eb, bits_andn]⟩
theorem less_u64 {f g : Nat → Int} (hf : U64 f) (hg : U64 g) : U64 (joinC .andNot f g) := fun i => by
  obtain ⟨a, b, _, _, _, _, h⟩ := less_nat hf hg i
  have := andn_lt a b
  rw [h]; omega
theorem less_N100 {f g : Nat → Int} (hf : N100 f) (hg : U64 g) : N100 (joinC .andNot f g) := ⟨less_u64 hf.1 hg, by
  obtain ⟨a, b, ea, _, ha, _, h⟩ := less_nat hf.1 hg 1
  have h1 := andn_le a b ha
  have h2 := hf.2
  rw [h]; rw [ea] at h2; omega⟩
theorem hasC_less {f g : Nat → Int} (hf : U64 f) (hg : U64 g) {j : Nat} (hj : j < 100) : hasC (joinC .andNot f g) (j : Int) = (hasC f (j : Int) && !hasC g (j : Int)) := by
  obtain ⟨a, b, ea, eb, ha, hb, h⟩ := less_nat hf hg (j / 64)
  rw [hasC_bit hj h (andn_lt a b), hasC_bit hj ea ha, hasC_bit hj eb hb, andn_bit _ _ _ (by omega)]
/-- The words with the bits above 99 left away. -/
def cutC (g : Nat → Int) (i : Nat) : Int := if i = 0 then g 0 else bits .and .u64 (g 1) 68719476735
theorem opC_cut (op : BinOp) (f g : Nat → Int) : opC op f g = cutC (joinC op f g) := rfl
theorem cutC_N100 {g : Nat → Int} (hg : U64 g) : N100 (cutC g) := by
  obtain ⟨b, eb, hb⟩ := nat_of hg 1
  have e : ∀ i, i ≠ 0 → cutC g i = ((b % 68719476736 : Nat) : Int) := fun i hi => by
    unfold cutC; rw [if_neg hi, eb, mask_lt b hb]
  refine ⟨fun i => ?_, by rw [e 1 (by omega)]; omega⟩
  by_cases hi : i = 0
  · subst hi; exact hg 0
  · rw [e i hi]; omega
theorem hasC_cut {g : Nat → Int} (hg : U64 g) {j : Nat} (hj : j < 100) : hasC (cutC g) (j : Int) = hasC g (j : Int) := by
  by_cases h : j < 64
  · obtain ⟨a, ea, ha⟩ := nat_of hg 0
    rw [hasC_bit (a := a) hj (by rw [Nat.div_eq_of_lt h]; exact ea) ha, hasC_bit (a := a) hj (by rw [Nat.div_eq_of_lt h]; exact ea) ha]
  · obtain ⟨b, eb, hb⟩ := nat_of hg 1
    have e1 : j / 64 = 1 := by omega
    have e2 : cutC g 1 = ((b % 68719476736 : Nat) : Int) := by unfold cutC; rw [if_neg (by omega), eb, mask_lt b hb]
    rw [hasC_bit (a := b % 68719476736) hj (by rw [e1]; exact e2) (by omega), hasC_bit (a := b) hj (by rw [e1]; exact eb) hb, p36, Nat.testBit_mod_two_pow]
    simp; omega
theorem hlist_congr {f g : Nat → Int} : ∀ n, n ≤ 100 → (∀ j : Nat, j < 100 → hasC f (j : Int) = hasC g (j : Int)) → hlist f n = hlist g n
  | 0, _, _ => rfl
  | n + 1, hn, h => by
    have ih := hlist_congr n (by omega) h
    have hj := h n (by omega)
    cases hc : hasC g (n : Int) with
    | true => rw [hlist_hit hc, hlist_hit (by rw [hj]; exact hc), ih]
    | false => rw [hlist_miss hc, hlist_miss (by rw [hj]; exact hc), ih]
theorem hlist_nil {g : Nat → Int} : ∀ {n}, hlist g n = [] → ∀ j : Nat, j < n → hasC g (j : Int) = false
  | 0, _, j, hj => by omega
  | n + 1, h, j, hj => by
    cases hc : hasC g (n : Int) with
    | true => rw [hlist_hit hc] at h; simp at h
    | false =>
      rw [hlist_miss hc] at h
      by_cases e : j = n
      · subst e; exact hc
      · exact hlist_nil h j (by omega)
theorem hlist_empty {g : Nat → Int} : ∀ {n}, (∀ j : Nat, j < n → hasC g (j : Int) = false) → hlist g n = []
  | 0, _ => rfl
  | n + 1, h => by rw [hlist_miss (h n (by omega)), hlist_empty (fun j hj => h j (by omega))]
/-- A set with no number: its words, its list. -/
theorem none_iff {g : Nat → Int} (hg : N100 g) : (g 0 = 0 ∧ g 1 = 0) ↔ hlist g 100 = [] := by
  constructor
  · intro h
    exact hlist_empty (fun j hj => by
      have h2 : hasC g (j : Int) = hasC (fun _ => 0) (j : Int) := by unfold hasC; rw [h.1, h.2]
      rw [h2, hasC_zero j hj])
  · exact fun h => word_zero hg (hlist_nil h)
/-- Two words of a set that comes in. -/
theorem u64_of (g : Nat → Int) (h : ∀ i, i < 2 → (Lit.int .u64 (g i)).wf = true) : ∃ g', U64 g' ∧ acells .u64 2 g = acells .u64 2 g' := by
  refine ⟨fun i => if i < 2 then g i else 0, fun i => ?_, acells_congr (fun i hi => by rw [if_pos hi])⟩
  show 0 ≤ (if i < 2 then g i else 0) ∧ (if i < 2 then g i else 0) < 18446744073709551616
  by_cases hi : i < 2
  · rw [if_pos hi]
    have e1 : IntKind.u64.min = 0 := by decide
    have e2 : IntKind.u64.max = 18446744073709551615 := by decide
    have := h i hi
    simp [Lit.wf, e1, e2] at this
    omega
  · rw [if_neg hi]; omega
theorem wf_of_u64 {g : Nat → Int} (h : U64 g) : ∀ i, i < 2 → (Lit.int .u64 (g i)).wf = true := fun i _ => lit_word (h i)
end
section
open Go Go.RowKit

section
variable {P : Program} {ops : Array Oper} {C : World → Prop} {l : List OpD} {Q : Act → Left → Prop} {o : Oper} {rest : List Oper} {k : Nat} {a : Act} {g : Left}
/-- The address of an element. -/
theorem rel_index (t e : TypeId) (x ix : Operand) (ho : o.op = .indexAddr t x ix) (b off n c sz i : Nat) (hx : a.eval x = .slice (some ⟨b, off, none⟩) n c) (hix : a.eval ix = .int .i64 i) (hi : i < n) (hu : P.underlying t = some (.slice e)) (hsz : (P.info? e).map (·.size) = some sz)
    (hl : l[k]? = some (dV (.pointer (some ⟨b, off + i * sz, none⟩)))) (hw : Region.wanted o (yielded ops a.tmps) = true)
    (h2 : ∀ x, wpRel P ops C (DL l) Q rest (k + 1) (a.put o.dst (.pointer (some ⟨b, off + i * sz, none⟩))) (g.upd k x)) : wpRel P ops C (DL l) Q (o :: rest) k a g :=
  rel_val _ hl hw (fun w _ => by
    have he : P.elem t = e := by simp [Program.elem, hu]
    cases hie : P.info? e with
    | none => simp [hie] at hsz
    | some ie =>
      simp only [hie, Option.map_some, Option.some.injEq] at hsz
      have hr : (Instr.indexAt t (.slice (some ⟨b, off, none⟩) n c) (.int .i64 (i : Int))).run P w = .ok (.pointer (some ⟨b, off + i * sz, none⟩)) w := by
        rw [run_indexAt_slice _ _ _ _ _ _ _ (by rw [he]; exact hu), if_pos ⟨by omega, by omega⟩, he]
        simp [sizeOf, typeInfo, hie, hsz, Addr.add]
      unfold execOp
      simp only [ho, hx, hix, Sem.run_bind, hr, Result.andThen_ok, Sem.run_pure]) h2
/-- Two structs compared, for being other. -/
theorem rel_neq (t t' : TypeId) (x y : Operand) (ho : o.op = .binOp .neq t x y t') (xs ys : Array Value) (hx : a.eval x = .agg xs) (hy : a.eval y = .agg ys) (r : Bool) (hl : l[k]? = some (dV (.bool (!r)))) (hw : Region.wanted o (yielded ops a.tmps) = true)
    (hm : P.eqGuardType P.depth t = false) (hr : ∀ w, (Op.equalIn 10000 t (.agg xs) (.agg ys)).run P w = .ok r w)
    (h2 : ∀ x, wpRel P ops C (DL l) Q rest (k + 1) (a.put o.dst (.bool (!r))) (g.upd k x)) : wpRel P ops C (DL l) Q (o :: rest) k a g :=
  rel_val _ hl hw (fun w _ => by
    unfold execOp
    simp only [ho, hx, hy, Sem.run_bind, run_eqGuard_agg w .neq t x y xs ys hm, Result.andThen_ok, run_neq_struct w t xs ys, hr w, Sem.run_pure]) h2
end

/-- Two elements are equal, as a Bool. -/
def seq (s : Nat) (f g : Nat → Int) : Bool := allTo s (fun j => f j == g j)
theorem seq_iff {ks : List IntKind} {F G : Nat → Nat → Int} {i m : Nat} : seq ks.length (F i) (G m) = true ↔ srow ks F i = srow ks G m := by
  simp only [seq, allTo_iff, beq_iff_eq]
  constructor
  · intro h
    unfold srow
    congr 1
    refine List.map_congr_left (fun j hj => ?_)
    unfold sget; rw [h j (List.mem_range.1 hj)]
  · intro h j hj
    have := congrArg (fun a => a[j]?) h
    simp only [srow_get ks F i j hj, srow_get ks G m j hj] at this
    have h2 := Option.some.inj this
    unfold sget at h2
    injection h2
/-- A struct of integer fields, one cell each. -/
def plainFields (P : Program) (fs : Array Field) (ks : List IntKind) : Bool :=
  (List.range ks.length).all (fun j => match fs[j]? with | some f => (f.offset == j) && (f.name != "_") && (match P.underlying f.type with | some (.int q) => q == ks.getD j .i64 | _ => false) && (P.cellsOf f.type == 1) | none => false) && fs.size == ks.length
theorem keyLits_str {P : Program} {t : TypeId} {fs : Array Field} {ks : List IntKind} (F : Nat → Nat → Int) (i : Nat) (hu : P.underlying t = some (.struct fs)) (hp : plainFields P fs ks = true) (hct : P.cellsOf t = ks.length)
    (hwf : ∀ j, j < ks.length → (Lit.int (ks.getD j .i64) (F i j)).wf = true) (d : Nat) : P.keyLits (d + 2) t (srow ks F i).toList = some ((List.range ks.length).map fun j => Lit.int (ks.getD j .i64) (F i j)) := by
  simp only [plainFields, Bool.and_eq_true, beq_iff_eq, List.all_eq_true, List.mem_range] at hp
  obtain ⟨hp, hsz⟩ := hp
  have hf : ∀ j, (hj : j < ks.length) → ∃ f q, fs[j]? = some f ∧ f.offset = j ∧ f.name ≠ "_" ∧ P.underlying f.type = some (.int q) ∧ q = ks.getD j .i64 ∧ P.cellsOf f.type = 1 := fun j hj => by
    have h := hp j hj
    cases hfj : fs[j]? with
    | none => simp [hfj] at h
    | some f =>
      simp only [hfj, Bool.and_eq_true, beq_iff_eq, bne_iff_ne] at h
      cases hq : P.underlying f.type with
      | none => simp [hq] at h
      | some dd =>
        cases dd with
        | int q => simp only [hq] at h; exact ⟨f, q, rfl, h.1.1.1, h.1.1.2, hq, by simpa using h.1.2, h.2⟩
        | _ => simp [hq] at h
  have hall : fs.all (·.name != "_") = true := by
    rw [Array.all_eq_true]
    intro j hj
    obtain ⟨f, q, h1, _, h3, _⟩ := hf j (by omega)
    rw [Array.getElem?_eq_getElem hj] at h1
    have := Option.some.inj h1
    rw [this]; simpa using h3
  have hm : (fs.toList.mapM fun f => P.keyLits (d + 1) f.type (((srow ks F i).toList.drop f.offset).take (P.cellsOf f.type))) = some ((List.range ks.length).map fun j => [Lit.int (ks.getD j .i64) (F i j)]) := by
    have e : fs.toList = (List.range ks.length).map (fun j => (fs[j]?).getD default) := by
      apply List.ext_getElem?
      intro j
      by_cases hj : j < ks.length
      · obtain ⟨f, q, h1, _⟩ := hf j hj
        rw [Array.getElem?_toList, h1]; simp [hj, h1]
      · rw [List.getElem?_eq_none (by simp; omega), List.getElem?_eq_none (by simp; omega)]
    rw [e]
    have key : ∀ (l : List Nat), (∀ j ∈ l, j < ks.length) → ((l.map (fun j => (fs[j]?).getD default)).mapM fun f => P.keyLits (d + 1) f.type (((srow ks F i).toList.drop f.offset).take (P.cellsOf f.type))) = some (l.map fun j => [Lit.int (ks.getD j .i64) (F i j)]) := by
      intro l
      induction l with
      | nil => intro _; rfl
      | cons j l ih =>
        intro hl
        have hj := hl j (List.mem_cons_self ..)
        obtain ⟨f, q, h1, h2, h3, h4, h5, h6⟩ := hf j hj
        have hd : ((srow ks F i).toList.drop f.offset).take (P.cellsOf f.type) = [sget ks F i j] := by
          rw [h2, h6]
          have := srow_get ks F i j hj
          rw [← Array.getElem?_toList] at this
          obtain ⟨hlt, he⟩ := List.getElem?_eq_some_iff.1 this
          rw [List.drop_eq_getElem_cons hlt, he]; rfl
        rw [List.map_cons, List.mapM_cons, h1, Option.getD_some, hd]
        have hk : P.keyLits (d + 1) f.type [sget ks F i j] = some [Lit.int (ks.getD j .i64) (F i j)] := by
          unfold sget Program.keyLits
          subst h5
          simp only [h4]
          rw [if_pos ⟨trivial, hwf j hj⟩]
        rw [hk, ih (fun x hx => hl x (List.mem_cons_of_mem _ hx))]
        rfl
    exact key _ (fun j hj => List.mem_range.1 hj)
  unfold Program.keyLits
  simp only [hu]
  rw [if_pos ⟨by rw [hct, Array.length_toList, srow_size], hall⟩, hm]
  simp only [Option.map_some, Option.some.injEq]
  induction List.range ks.length with
  | nil => rfl
  | cons x l ih => rw [List.map_cons, List.flatten_cons, ih]; rfl
theorem run_equalIn_str {P : Program} {t : TypeId} {fs : Array Field} {ks : List IntKind} {m : Nat} (F G : Nat → Nat → Int) (i p : Nat) (hu : P.underlying t = some (.struct fs)) (hp : plainFields P fs ks = true) (hct : P.cellsOf t = ks.length) (hk : P.keyTypeAt m t = true) (hm : m ≤ 10000)
    (hF : ∀ j, j < ks.length → (Lit.int (ks.getD j .i64) (F i j)).wf = true) (hG : ∀ j, j < ks.length → (Lit.int (ks.getD j .i64) (G p j)).wf = true) (w : World) :
    (Op.equalIn 10000 t (.agg (srow ks F i)) (.agg (srow ks G p))).run P w = .ok (seq ks.length (F i) (G p)) w := by
  have fm : ∀ F i, (Value.agg (srow ks F i)).formed P t = true := fun F i => by simp only [Value.formed, hu, srow_size, hct, beq_self_eq_true]
  obtain ⟨r, hr, hiff⟩ := run_equalIn_deep (10000 - m) m t hk w _ _ (.agg (srow ks F i)) (.agg (srow ks G p)) _ _ (fm F i) (fm G p) (keyLits_str F i hu hp hct hF 0) (keyLits_str G p hu hp hct hG 0)
  rw [show 10000 - m + m = 10000 by omega] at hr
  have e : r = seq ks.length (F i) (G p) := by
    rw [Bool.eq_iff_iff, hiff, seq_iff]
    constructor
    · intro h
      have h2 : (List.range ks.length).map (fun j => sget ks F i j) = (List.range ks.length).map (fun j => sget ks G p j) := by
        have := congrArg (List.map Lit.toCell) h
        simpa [List.map_map, Function.comp_def, Lit.toCell, sget] using this
      unfold srow; rw [h2]
    · intro h
      have := seq_iff.2 h
      simp only [seq, allTo_iff, beq_iff_eq] at this
      exact List.map_congr_left (fun j hj => by rw [this j (List.mem_range.1 hj)])
  subst e
  exact hr
end
section
open Go Go.RowKit Go.Shelf
attribute [local go_sem] Oper.semAt_some

set_option maxRecDepth 100000 in
set_option maxHeartbeats 8000000 in
theorem bestIn_some3 (f : Fd) (hok : okF f = true) (g : Nat → Int) (fc : FuncId) (eb eb2 eb3 : Nat) (v : Nat → Int) (p : Nat) (hv : bestTo (inSet f g) v 100 = (p : Int)) (E : World → Prop) (hE : ∀ w w', E w → Below w.heap.size w w' → E w')
    (hcl : ∀ (k : Nat) (w' : World), isCell f k = true → E w' → Calls Tryd.prog fc #[.int .i64 k, .pointer (some ⟨eb, 0, none⟩), .pointer (some ⟨eb2, 0, none⟩), .pointer (some ⟨eb3, 0, none⟩)] w' fun e w2 => e = .returned (.int .i64 (v k)) ∧ Below w'.heap.size w' w2)
    (hent : ∀ (args : Array Value) (w : World), (callFunc fc args).run Tryd.prog w = .ok (.enter fc args) w) (w : World) (he : E w) :
    Calls Tryd.prog 43 #[.agg (fcells f), .agg (acells .u64 2 g), .func (.func fc) #[] #[.pointer (some ⟨eb, 0, none⟩), .pointer (some ⟨eb2, 0, none⟩), .pointer (some ⟨eb3, 0, none⟩)]] w fun e w' => e = .returned (.tuple #[.int .i64 p, .nilIface]) ∧ Below w.heap.size w w' := by
  obtain ⟨hp, hpm, hne⟩ := ins_some hv
  have HNE := Lib.hid hne
  have HV := Lib.hid hv
  have HCL := Lib.hid hcl
  have HE := Lib.hid hE
  have E0 := Lib.hid he
  have HENT := Lib.hid hent
  clear hcl hE he hent hne hv hpm
  have hdep : Fence.wide.depth.isSome = false := rfl
  have hfn : ∀ k, Fence.wide.fn k := fun _ => trivial
  refine (callsIn_wide (n := 3)).1 ?_
  refine callsIn_of_wp_marks Tryd.func43 rfl trivial ?_ rfl
  simp only [Tryd.ntmps43, List.size_toArray, List.length_cons, List.length_nil, Nat.reduceAdd, Nat.reduceSub, Array.replicate_succ, Array.replicate_zero, List.push_toArray, List.append_toArray, List.nil_append, List.cons_append]
  gi_upto_region 1 with (fail)
  obtain ⟨W, hW, M⟩ := open3 w (fcells f) 31 (acells .u64 2 g) 43 #[.func (.func fc) #[] #[.pointer (some ⟨eb, 0, none⟩), .pointer (some ⟨eb2, 0, none⟩), .pointer (some ⟨eb3, 0, none⟩)]] 79
  rw [hW]; clear hW
  gi_upto_region 2 with (first
    | (refine loadIn hfn rfl 31 _ rfl w.heap.size 0 rfl (fcells f) _ (M.at 0 rfl).whole Tryd.underlying31 rfl (by rw [fcells_size]; exact sizeFd) ?_)
    | (refine loadIn hfn rfl 43 _ rfl (w.heap.size + 1) 0 rfl (acells .u64 2 g) _ (M.at 1 rfl).whole Tryd.underlying43 rfl (by rw [acells_size]; exact sizeC) ?_)
    | (gi_at_call 40; refine (callsIn_wide.2 (inField_any f hok g _)).mono ?_; rintro e W2 ⟨rfl, hb2⟩; rw [show wantSet f (fun k => hasC g (k : Int)) 100 = ins f g from rfl]; have M2 := M.call hb2; clear hb2)
    | (refine storeIn hfn rfl 43 _ _ rfl W2.heap.size 0 (acells .u64 2 (ins f g)) rfl rfl (((M2.alloc #[.int .u64 0, .int .u64 0] 43).at 3 rfl).there 0 _ (by rw [acells_size]; decide)) (by rw [acells_size]; exact sizeC) (acells_one _ _ _) ?_))
  have M3 := (M2.alloc #[.int .u64 0, .int .u64 0] 43).cells 3 0 (acells .u64 2 (ins f g)).toList rfl (acells .u64 2 (ins f g)) (((M2.alloc #[.int .u64 0, .int .u64 0] 43).at 3 rfl).over (acells .u64 2 (ins f g)) (by rw [acells_size]; rfl))
  obtain ⟨ib, hib⟩ : ∃ ib, ib = W2.heap.size := ⟨_, rfl⟩
  rw [← hib] at M3 ⊢
  clear hib M M2
  generalize World.setCells _ _ _ _ = W3 at M3 ⊢
  have M3' : Mem w W3 [⟨w.heap.size, fcells f, 31⟩, ⟨w.heap.size + 1, acells .u64 2 g, 43⟩, ⟨w.heap.size + 1 + 1, #[.func (.func fc) #[] #[.pointer (some ⟨eb, 0, none⟩), .pointer (some ⟨eb2, 0, none⟩), .pointer (some ⟨eb3, 0, none⟩)]], 79⟩, ⟨ib, acells .u64 2 (ins f g), 43⟩] := M3
  clear M3
  gi_upto_region 5 with (first
    | (refine loadIn hfn rfl 43 _ rfl ib 0 rfl (acells .u64 2 (ins f g)) _ (M3'.at 3 rfl).whole Tryd.underlying43 rfl (by rw [acells_size]; exact sizeC) ?_)
    | (refine eqlIn hfn rfl 43 _ _ _ rfl (acells .u64 2 (ins f g)) (acells .u64 2 (fun _ => 0)) rfl rfl (by kernel_rfl) false (run_equalIn_cells _ _ (want_u64 _ _ _) zero_u64 false (by simp only [Bool.false_eq_true, false_iff]; exact HNE.out) _) ?_))
  gi_wp2_with (first
    | (refine loadIn hfn rfl 43 _ rfl ib 0 rfl (acells .u64 2 (ins f g)) _ ((M3'.alloc _ _).at 3 rfl).whole Tryd.underlying43 rfl (by rw [acells_size]; exact sizeC) ?_)
    | (gi_at_call 58; refine (callsIn_wide.2 (numbersIn_any (ins f g) _)).mono ?_; rintro e w' ⟨rfl, rfl⟩))
  obtain ⟨nb, hnb⟩ : ∃ nb, nb = W3.heap.size := ⟨_, rfl⟩
  have M4 := M3'.alloc #[.int .i64 (-1)] 2
  have hs4 : (W3.alloc (Obj.cells #[.int .i64 (-1)] 2)).heap.size = W3.heap.size + 1 := World.size_alloc _ _
  rw [← hnb] at M4 hs4 ⊢
  clear hnb M3'
  generalize W3.alloc _ = W4 at M4 hs4 ⊢
  obtain ⟨bi, hbi⟩ : ∃ bi, bi = nb + 1 := ⟨_, rfl⟩
  have M4b := M4.alloc (acells .u64 2 (ins f g)) 43
  rw [hs4, ← hbi] at M4b
  rw [← hbi]
  clear hbi M4 hs4
  generalize W4.alloc _ = W4b at M4b ⊢
  have M4' : Mem w W4b [⟨w.heap.size, fcells f, 31⟩, ⟨w.heap.size + 1, acells .u64 2 g, 43⟩, ⟨w.heap.size + 1 + 1, #[.func (.func fc) #[] #[.pointer (some ⟨eb, 0, none⟩), .pointer (some ⟨eb2, 0, none⟩), .pointer (some ⟨eb3, 0, none⟩)]], 79⟩, ⟨ib, acells .u64 2 (ins f g), 43⟩, ⟨nb, #[.int .i64 (bestL (g := ins f g) v [])], 2⟩, ⟨bi, acells .u64 2 (ins f g), 43⟩] := M4b
  clear M4b
  have hsz : w.heap.size ≤ W4b.heap.size := M4'.below.size
  refine wpIn_rangeFunc_ownF rfl (by omega) (gf := 72) (lb := #[.pointer (some ⟨bi, 0, none⟩)]) rfl trivial (enters_of Tryd.func72 (by kernel_rfl) rfl)
    (nums_stops 2 bi (ins f g) W4b (M4'.at 5 rfl)) (fun h k => k.trans h)
    (fun W l o o' hl ho hc _ => World.putObj_heap_other (fun e => by
      have := (M4'.at 5 rfl).lt
      omega))
    (Below.refl _ _) (fun _ => rfl)
    (fun pre W => Mem w W [⟨w.heap.size, fcells f, 31⟩, ⟨w.heap.size + 1, acells .u64 2 g, 43⟩, ⟨w.heap.size + 1 + 1, #[.func (.func fc) #[] #[.pointer (some ⟨eb, 0, none⟩), .pointer (some ⟨eb2, 0, none⟩), .pointer (some ⟨eb3, 0, none⟩)]], 79⟩, ⟨ib, acells .u64 2 (ins f g), 43⟩, ⟨nb, #[.int .i64 (bestL v pre)], 2⟩, ⟨bi, acells .u64 2 (ins f g), 43⟩])
    (fun _ _ _ => False)
    (fun s A B row hs hg hr => hs.grown hsz hg hr)
    (fun c s A B row hs hg hr => hs)
    M4'
    (fun x => { tmps := #[.agg (fcells f), .agg (acells .u64 2 g), .func (.func fc) #[] #[.pointer (some ⟨eb, 0, none⟩), .pointer (some ⟨eb2, 0, none⟩), .pointer (some ⟨eb3, 0, none⟩)], .pointer (some ⟨w.heap.size, 0, none⟩), .pointer (some ⟨w.heap.size + 1, 0, none⟩), .pointer (some ⟨w.heap.size + 1 + 1, 0, none⟩), .int .i64 0, .nilIface, .pointer (some ⟨ib, 0, none⟩), .pointer (some ⟨nb, 0, none⟩), .int .i64 (x.1 : Int), .agg (fcells f), .agg (acells .u64 2 g), .agg (acells .u64 2 (ins f g)), .agg (acells .u64 2 (ins f g)), .agg #[.int .u64 0, .int .u64 0], .bool false, undef, .agg (acells .u64 2 (ins f g)), .func (.func 72) #[] #[.pointer (some ⟨bi, 0, none⟩)], .int .i64 (x.1 : Int), undef, undef, undef, undef, undef, undef, undef, undef, undef, undef, undef, undef, undef], defers := [] }) ?assign ?body ?done ?stop
  case assign =>
    intro l x W K hK
    gi_wp2
    exact hK
  case body =>
    rintro l pre x W5 M5 _
    have hfn' : ∀ k, (Fence.wide.inRound l).fn k := fun _ => trivial
    have hdep' : (Fence.wide.inRound l).depth.isSome = false := rfl
    have hin : ∀ j : Nat, j < 100 → hasC (ins f g) (j : Int) = true → isCell f (j : Int) = true := fun j hj h => by
      rw [hasC_ins f g hj] at h
      unfold inSet at h
      simp only [Bool.and_eq_true] at h
      exact h.1
    have hxc := hin x.1 x.2.1 x.2.2
    rcases bestL_cases v pre with h1 | ⟨q, h1, h2, h3⟩
    · have hyes : Hid (bestL v (pre ++ [x]) = (x.1 : Int)) := Lib.hid (bestL_first h1)
      rw [h1] at M5
      clear h1
      gi_wp2
      refine wpIn_region_rel_tail 10 (DL [dV (.int .i64 (-1)), dV (.bool true), dV (.bool true)]) (fun w' => Mem w w' [⟨w.heap.size, fcells f, 31⟩, ⟨w.heap.size + 1, acells .u64 2 g, 43⟩, ⟨w.heap.size + 1 + 1, #[.func (.func fc) #[] #[.pointer (some ⟨eb, 0, none⟩), .pointer (some ⟨eb2, 0, none⟩), .pointer (some ⟨eb3, 0, none⟩)]], 79⟩, ⟨ib, acells .u64 2 (ins f g), 43⟩, ⟨nb, #[.int .i64 (-1)], 2⟩, ⟨bi, acells .u64 2 (ins f g), 43⟩] ∧ Below W5.heap.size W5 w') hfn' hdep' (by kernel_rfl) (fun f' args w' R h => CallsIn.inRound l (callsIn_wide.2 h)) (by kernel_rfl) (by kernel_rfl) grows_memB
        (stays_DL (fun d hd => by
          simp only [List.mem_cons, List.mem_nil_iff, or_false] at hd
          rcases hd with rfl | rfl | rfl <;> exact stay_V)) ⟨M5.drew, (Below.refl _ _).drew⟩ ?_
      refine rel_cell 2 _ rfl nb 0 rfl (.int .i64 (-1)) rfl rfl (fun w' c => load_n64 _ _ _ w' c) (fun w' hw' => (hw'.1.at 4 rfl).cell (i := 0) rfl) (fun _ => ?_)
      simp only [Act.put, List.setIfInBounds_toArray, List.set_cons_zero, List.set_cons_succ]
      refine rel_val (.bool true) rfl rfl (fun w' _ => rfl) (fun _ => ?_)
      simp only [Act.put, List.setIfInBounds_toArray, List.set_cons_zero, List.set_cons_succ]
      refine rel_val (.bool true) rfl rfl (fun _ _ => rfl) (fun _ => ?_)
      simp only [Act.put, List.setIfInBounds_toArray, List.set_cons_zero, List.set_cons_succ]
      refine rel_skip rfl ?_
      simp only [Act.put, List.setIfInBounds_toArray, List.set_cons_zero, List.set_cons_succ]
      refine rel_skip rfl ?_
      simp only [Act.put, List.setIfInBounds_toArray, List.set_cons_zero, List.set_cons_succ]
      refine rel_skip rfl ?_
      simp only [Act.put, List.setIfInBounds_toArray, List.set_cons_zero, List.set_cons_succ]
      refine rel_skip rfl ?_
      simp only [Act.put, List.setIfInBounds_toArray, List.set_cons_zero, List.set_cons_succ]
      refine rel_skip rfl ?_
      simp only [Act.put, List.setIfInBounds_toArray, List.set_cons_zero, List.set_cons_succ]
      refine rel_skip rfl ?_
      simp only [Act.put, List.setIfInBounds_toArray, List.set_cons_zero, List.set_cons_succ]
      refine rel_skip rfl ?_
      simp only [Act.put, List.setIfInBounds_toArray, List.set_cons_zero, List.set_cons_succ]
      refine rel_nil (fun w' inv => ?_)
      have M6 := inv.cls.1
      have B6 := inv.cls.2
      clear inv
      change wpListIn _ _ _ _ _ (_ :: []) _ _
      have e4 := (M6.at 4 rfl).free 0
      have c4 := (M6.at 4 rfl).cell (i := 0) rfl
      gi_wp2
      have M8 := M6.set 4 0 (.int .i64 (x.1 : Int)) rfl _ rfl
      exact ⟨(KeepsOthers.of_below B6).trans (KeepsOthers.setCell _ _ _), M5.same M8 5 5 rfl rfl, by show Mem w _ _; rw [hyes.out]; exact M8⟩
    · have hqc := hin q h2 h3
      have hq0 : Hid (decide ((q : Int) < 0) = false) := Lib.hid (decide_eq_false (by omega))
      clear h2 h3
      by_cases h4 : v q < v x.1
      · have hyes : Hid (bestL v (pre ++ [x]) = (x.1 : Int)) := Lib.hid (bestL_more h1 h4)
        have hcmp : Hid (decide (v x.1 > v q) = true) := Lib.hid (decide_eq_true h4)
        rw [h1] at M5
        clear h1 h4
        gi_wp2
        refine wpIn_region_rel_tail 10 (DL [dV (.int .i64 (q : Int)), dV (.bool false), dV (.bool false), dV (.func (.func fc) #[] #[.pointer (some ⟨eb, 0, none⟩), .pointer (some ⟨eb2, 0, none⟩), .pointer (some ⟨eb3, 0, none⟩)]), dV (.int .i64 (x.1 : Int)), dV (.int .i64 (v x.1)), dV (.func (.func fc) #[] #[.pointer (some ⟨eb, 0, none⟩), .pointer (some ⟨eb2, 0, none⟩), .pointer (some ⟨eb3, 0, none⟩)]), dV (.int .i64 (q : Int)), dV (.int .i64 (v q)), dV (.bool true)]) (fun w' => Mem w w' [⟨w.heap.size, fcells f, 31⟩, ⟨w.heap.size + 1, acells .u64 2 g, 43⟩, ⟨w.heap.size + 1 + 1, #[.func (.func fc) #[] #[.pointer (some ⟨eb, 0, none⟩), .pointer (some ⟨eb2, 0, none⟩), .pointer (some ⟨eb3, 0, none⟩)]], 79⟩, ⟨ib, acells .u64 2 (ins f g), 43⟩, ⟨nb, #[.int .i64 (q : Int)], 2⟩, ⟨bi, acells .u64 2 (ins f g), 43⟩] ∧ Below W5.heap.size W5 w') hfn' hdep' (by kernel_rfl) (fun f' args w' R h => CallsIn.inRound l (callsIn_wide.2 h)) (by kernel_rfl) (by kernel_rfl) grows_memB
          (stays_DL (fun d hd => by
            simp only [List.mem_cons, List.mem_nil_iff, or_false] at hd
            rcases hd with rfl | rfl | rfl | rfl | rfl | rfl | rfl | rfl | rfl | rfl <;> exact stay_V)) ⟨M5.drew, (Below.refl _ _).drew⟩ ?_
        refine rel_cell 2 _ rfl nb 0 rfl (.int .i64 (q : Int)) rfl rfl (fun w' c => load_n64 _ _ _ w' c) (fun w' hw' => (hw'.1.at 4 rfl).cell (i := 0) rfl) (fun _ => ?_)
        simp only [Act.put, List.setIfInBounds_toArray, List.set_cons_zero, List.set_cons_succ]
        refine rel_val (.bool false) rfl rfl (fun w' _ => by rw [← hq0.out]; rfl) (fun _ => ?_)
        simp only [Act.put, List.setIfInBounds_toArray, List.set_cons_zero, List.set_cons_succ]
        refine rel_val (.bool false) rfl rfl (fun _ _ => rfl) (fun _ => ?_)
        simp only [Act.put, List.setIfInBounds_toArray, List.set_cons_zero, List.set_cons_succ]
        refine rel_cell 79 _ rfl (w.heap.size + 1 + 1) 0 rfl (.func (.func fc) #[] #[.pointer (some ⟨eb, 0, none⟩), .pointer (some ⟨eb2, 0, none⟩), .pointer (some ⟨eb3, 0, none⟩)]) rfl rfl (fun w' c => load_fn1 _ _ _ _ w' c) (fun w' hw' => (hw'.1.at 2 rfl).cell (i := 0) rfl) (fun _ => ?_)
        simp only [Act.put, List.setIfInBounds_toArray, List.set_cons_zero, List.set_cons_succ]
        refine rel_val (.int .i64 (x.1 : Int)) rfl rfl (fun _ _ => rfl) (fun _ => ?_)
        simp only [Act.put, List.setIfInBounds_toArray, List.set_cons_zero, List.set_cons_succ]
        refine rel_callDyn _ fc #[.int .i64 (x.1 : Int), .pointer (some ⟨eb, 0, none⟩), .pointer (some ⟨eb2, 0, none⟩), .pointer (some ⟨eb3, 0, none⟩)] rfl rfl rfl rfl rfl HENT.out (fun w' hw' => HCL.out x.1 w' hxc (HE.out _ _ E0.out hw'.1.below)) (fun _ => ?_)
        simp only [Act.put, List.setIfInBounds_toArray, List.set_cons_zero, List.set_cons_succ]
        refine rel_cell 79 _ rfl (w.heap.size + 1 + 1) 0 rfl (.func (.func fc) #[] #[.pointer (some ⟨eb, 0, none⟩), .pointer (some ⟨eb2, 0, none⟩), .pointer (some ⟨eb3, 0, none⟩)]) rfl rfl (fun w' c => load_fn1 _ _ _ _ w' c) (fun w' hw' => (hw'.1.at 2 rfl).cell (i := 0) rfl) (fun _ => ?_)
        simp only [Act.put, List.setIfInBounds_toArray, List.set_cons_zero, List.set_cons_succ]
        refine rel_cell 2 _ rfl nb 0 rfl (.int .i64 (q : Int)) rfl rfl (fun w' c => load_n64 _ _ _ w' c) (fun w' hw' => (hw'.1.at 4 rfl).cell (i := 0) rfl) (fun _ => ?_)
        simp only [Act.put, List.setIfInBounds_toArray, List.set_cons_zero, List.set_cons_succ]
        refine rel_callDyn _ fc #[.int .i64 (q : Int), .pointer (some ⟨eb, 0, none⟩), .pointer (some ⟨eb2, 0, none⟩), .pointer (some ⟨eb3, 0, none⟩)] rfl rfl rfl rfl rfl HENT.out (fun w' hw' => HCL.out q w' hqc (HE.out _ _ E0.out hw'.1.below)) (fun _ => ?_)
        simp only [Act.put, List.setIfInBounds_toArray, List.set_cons_zero, List.set_cons_succ]
        refine rel_val (.bool true) rfl rfl (fun w' _ => Eq.trans (show _ = Result.ok (Next.value (.bool (decide (v x.1 > v q)))) w' from rfl) (by rw [hcmp.out])) (fun _ => ?_)
        simp only [Act.put, List.setIfInBounds_toArray, List.set_cons_zero, List.set_cons_succ]
        refine rel_nil (fun w' inv => ?_)
        have M6 := inv.cls.1
        have B6 := inv.cls.2
        clear inv
        change wpListIn _ _ _ _ _ (_ :: []) _ _
        have e4 := (M6.at 4 rfl).free 0
        have c4 := (M6.at 4 rfl).cell (i := 0) rfl
        gi_wp2
        have M8 := M6.set 4 0 (.int .i64 (x.1 : Int)) rfl _ rfl
        exact ⟨(KeepsOthers.of_below B6).trans (KeepsOthers.setCell _ _ _), M5.same M8 5 5 rfl rfl, by show Mem w _ _; rw [hyes.out]; exact M8⟩
      · have hno : Hid (bestL v (pre ++ [x]) = (q : Int)) := Lib.hid (bestL_less h1 h4)
        have hcmp : Hid (decide (v x.1 > v q) = false) := Lib.hid (decide_eq_false h4)
        rw [h1] at M5
        clear h1 h4
        gi_wp2
        refine wpIn_region_rel_tail 10 (DL [dV (.int .i64 (q : Int)), dV (.bool false), dV (.bool false), dV (.func (.func fc) #[] #[.pointer (some ⟨eb, 0, none⟩), .pointer (some ⟨eb2, 0, none⟩), .pointer (some ⟨eb3, 0, none⟩)]), dV (.int .i64 (x.1 : Int)), dV (.int .i64 (v x.1)), dV (.func (.func fc) #[] #[.pointer (some ⟨eb, 0, none⟩), .pointer (some ⟨eb2, 0, none⟩), .pointer (some ⟨eb3, 0, none⟩)]), dV (.int .i64 (q : Int)), dV (.int .i64 (v q)), dV (.bool false)]) (fun w' => Mem w w' [⟨w.heap.size, fcells f, 31⟩, ⟨w.heap.size + 1, acells .u64 2 g, 43⟩, ⟨w.heap.size + 1 + 1, #[.func (.func fc) #[] #[.pointer (some ⟨eb, 0, none⟩), .pointer (some ⟨eb2, 0, none⟩), .pointer (some ⟨eb3, 0, none⟩)]], 79⟩, ⟨ib, acells .u64 2 (ins f g), 43⟩, ⟨nb, #[.int .i64 (q : Int)], 2⟩, ⟨bi, acells .u64 2 (ins f g), 43⟩] ∧ Below W5.heap.size W5 w') hfn' hdep' (by kernel_rfl) (fun f' args w' R h => CallsIn.inRound l (callsIn_wide.2 h)) (by kernel_rfl) (by kernel_rfl) grows_memB
          (stays_DL (fun d hd => by
            simp only [List.mem_cons, List.mem_nil_iff, or_false] at hd
            rcases hd with rfl | rfl | rfl | rfl | rfl | rfl | rfl | rfl | rfl | rfl <;> exact stay_V)) ⟨M5.drew, (Below.refl _ _).drew⟩ ?_
        refine rel_cell 2 _ rfl nb 0 rfl (.int .i64 (q : Int)) rfl rfl (fun w' c => load_n64 _ _ _ w' c) (fun w' hw' => (hw'.1.at 4 rfl).cell (i := 0) rfl) (fun _ => ?_)
        simp only [Act.put, List.setIfInBounds_toArray, List.set_cons_zero, List.set_cons_succ]
        refine rel_val (.bool false) rfl rfl (fun w' _ => by rw [← hq0.out]; rfl) (fun _ => ?_)
        simp only [Act.put, List.setIfInBounds_toArray, List.set_cons_zero, List.set_cons_succ]
        refine rel_val (.bool false) rfl rfl (fun _ _ => rfl) (fun _ => ?_)
        simp only [Act.put, List.setIfInBounds_toArray, List.set_cons_zero, List.set_cons_succ]
        refine rel_cell 79 _ rfl (w.heap.size + 1 + 1) 0 rfl (.func (.func fc) #[] #[.pointer (some ⟨eb, 0, none⟩), .pointer (some ⟨eb2, 0, none⟩), .pointer (some ⟨eb3, 0, none⟩)]) rfl rfl (fun w' c => load_fn1 _ _ _ _ w' c) (fun w' hw' => (hw'.1.at 2 rfl).cell (i := 0) rfl) (fun _ => ?_)
        simp only [Act.put, List.setIfInBounds_toArray, List.set_cons_zero, List.set_cons_succ]
        refine rel_val (.int .i64 (x.1 : Int)) rfl rfl (fun _ _ => rfl) (fun _ => ?_)
        simp only [Act.put, List.setIfInBounds_toArray, List.set_cons_zero, List.set_cons_succ]
        refine rel_callDyn _ fc #[.int .i64 (x.1 : Int), .pointer (some ⟨eb, 0, none⟩), .pointer (some ⟨eb2, 0, none⟩), .pointer (some ⟨eb3, 0, none⟩)] rfl rfl rfl rfl rfl HENT.out (fun w' hw' => HCL.out x.1 w' hxc (HE.out _ _ E0.out hw'.1.below)) (fun _ => ?_)
        simp only [Act.put, List.setIfInBounds_toArray, List.set_cons_zero, List.set_cons_succ]
        refine rel_cell 79 _ rfl (w.heap.size + 1 + 1) 0 rfl (.func (.func fc) #[] #[.pointer (some ⟨eb, 0, none⟩), .pointer (some ⟨eb2, 0, none⟩), .pointer (some ⟨eb3, 0, none⟩)]) rfl rfl (fun w' c => load_fn1 _ _ _ _ w' c) (fun w' hw' => (hw'.1.at 2 rfl).cell (i := 0) rfl) (fun _ => ?_)
        simp only [Act.put, List.setIfInBounds_toArray, List.set_cons_zero, List.set_cons_succ]
        refine rel_cell 2 _ rfl nb 0 rfl (.int .i64 (q : Int)) rfl rfl (fun w' c => load_n64 _ _ _ w' c) (fun w' hw' => (hw'.1.at 4 rfl).cell (i := 0) rfl) (fun _ => ?_)
        simp only [Act.put, List.setIfInBounds_toArray, List.set_cons_zero, List.set_cons_succ]
        refine rel_callDyn _ fc #[.int .i64 (q : Int), .pointer (some ⟨eb, 0, none⟩), .pointer (some ⟨eb2, 0, none⟩), .pointer (some ⟨eb3, 0, none⟩)] rfl rfl rfl rfl rfl HENT.out (fun w' hw' => HCL.out q w' hqc (HE.out _ _ E0.out hw'.1.below)) (fun _ => ?_)
        simp only [Act.put, List.setIfInBounds_toArray, List.set_cons_zero, List.set_cons_succ]
        refine rel_val (.bool false) rfl rfl (fun w' _ => Eq.trans (show _ = Result.ok (Next.value (.bool (decide (v x.1 > v q)))) w' from rfl) (by rw [hcmp.out])) (fun _ => ?_)
        simp only [Act.put, List.setIfInBounds_toArray, List.set_cons_zero, List.set_cons_succ]
        refine rel_nil (fun w' inv => ?_)
        have M6 := inv.cls.1
        have B6 := inv.cls.2
        clear inv
        change wpListIn _ _ _ _ _ (_ :: []) _ _
        gi_wp2
        exact ⟨KeepsOthers.of_below B6, M5.same M6 5 5 rfl rfl, by show Mem w _ _; rw [hno.out]; exact M6⟩
  case done =>
    rintro D xs W5 hD rfl M5 hK
    rw [bestL_to (ins f g) v 100 (by omega), best_ins, HV.out] at M5
    have c4 := (M5.at 4 rfl).cell (i := 0) rfl
    gi_wp2
    refine ⟨by simp, .inl ⟨_, _, rfl, run_takeDeferred hK, ?_⟩⟩
    have M7 := M5.taken (o' := .deferred none) (Nat.le_trans hsz hD) hK rfl
    exact ⟨.tuple #[.int .i64 p, .nilIface], by simp [results, Tryd.results43, go_sem], rfl, M7.below⟩
  case stop =>
    rintro D c pre W5 hD _ h hK
    exact h.elim
end
section
open Go Go.RowKit

theorem hasC_or {f g : Nat → Int} (hf : U64 f) (hg : U64 g) {j : Nat} (hj : j < 100) : hasC (joinC .or f g) (j : Int) = (hasC f (j : Int) || hasC g (j : Int)) := by
  obtain ⟨a, b, ea, eb, ha, hb, h, _⟩ := or_nat hf hg (j / 64)
  have hab : a ||| b < 18446744073709551616 := by rw [p64] at ha hb ⊢; exact or_bound ha hb
  rw [hasC_bit hj h hab, hasC_bit hj ea ha, hasC_bit hj eb hb, Nat.testBit_or]
theorem want_N100 (f : Fd) (q : Nat → Bool) : ∀ n, n ≤ 100 → N100 (wantSet f q n)
  | 0, _ => zero_N100
  | n + 1, h => by
    cases e : (isCell f n && q n) with
    | true =>
      have e' := e
      simp only [Bool.and_eq_true] at e'
      rw [wantSet_yes e'.1 e'.2]; exact putC_N100 (want_N100 f q n (by omega)) (by omega)
    | false => rw [wantSet_no e]; exact want_N100 f q n (by omega)
theorem bit_no {F : Nat → Int} (hF : N100 F) {i k x : Nat} (hi : i < 2) (e : F i = (x : Int)) (hk : ¬ 64 * i + k < 100 ∨ ¬ k < 64) : x.testBit k = false := by
  have h2 := (hF.1 i).2
  rcases Nat.lt_or_ge i 1 with h0 | h0
  · obtain rfl : i = 0 := by omega
    have hx : x < 2 ^ 64 := by rw [← p64]; omega
    exact Nat.testBit_lt_two_pow (Nat.lt_of_lt_of_le hx (Nat.pow_le_pow_right (by omega) (by omega)))
  · obtain rfl : i = 1 := by omega
    have h3 := hF.2
    have hx : x < 2 ^ 36 := by rw [← p36]; omega
    exact Nat.testBit_lt_two_pow (Nat.lt_of_lt_of_le hx (Nat.pow_le_pow_right (by omega) (by omega)))
/-- Two sets that have the same numbers are the same. -/
theorem set_ext {f g : Nat → Int} (hf : N100 f) (hg : N100 g) (h : ∀ j : Nat, j < 100 → hasC f (j : Int) = hasC g (j : Int)) : acells .u64 2 f = acells .u64 2 g := acells_congr (fun i hi => by
  obtain ⟨a, ea, ha⟩ := nat_of hf.1 i
  obtain ⟨b, eb, hb⟩ := nat_of hg.1 i
  rw [ea, eb]
  have e : a = b := Nat.eq_of_testBit_eq (fun k => by
    by_cases hk : 64 * i + k < 100 ∧ k < 64
    · have h1 := h (64 * i + k) hk.1
      rw [hasC_bit (a := a) hk.1 (by rw [show (64 * i + k) / 64 = i by omega]; exact ea) ha, hasC_bit (a := b) hk.1 (by rw [show (64 * i + k) / 64 = i by omega]; exact eb) hb, show (64 * i + k) % 64 = k by omega] at h1
      exact h1
    · have hk' : ¬ 64 * i + k < 100 ∨ ¬ k < 64 := by omega
      rw [bit_no hf hi ea hk', bit_no hg hi eb hk'])
  rw [e])
/-- The cells that are near one of the first of a list. -/
def sawSet (f : Fd) (g : Nat → Int) (s : Int) : Nat → Nat → Int
  | 0 => fun _ => 0
  | i + 1 => joinC .or (sawSet f g s i) (wantSet f (ringQ (g i).toNat s) 100)
theorem saw_N100 (f : Fd) (g : Nat → Int) (s : Int) : ∀ i, N100 (sawSet f g s i)
  | 0 => zero_N100
  | i + 1 => or_N100 (saw_N100 f g s i) (want_N100 _ _ _ (Nat.le_refl _))
theorem hasC_saw (f : Fd) (g : Nat → Int) (s : Int) {j : Nat} (hj : j < 100) : ∀ i, (hasC (sawSet f g s i) (j : Int) = true ↔ isCell f j = true ∧ ∃ t, t < i ∧ sq ((g t).toNat : Int) j ≤ s)
  | 0 => by
    rw [show sawSet f g s 0 = fun _ => 0 from rfl, hasC_zero j hj]
    constructor
    · intro h; cases h
    · rintro ⟨_, t, ht, _⟩; omega
  | i + 1 => by
    have ih := hasC_saw f g s hj i
    rw [sawSet, hasC_or (saw_N100 f g s i).1 (want_u64 _ _ _) hj, Bool.or_eq_true, ih, hasC_want _ _ hj, decide_eq_true hj, Bool.true_and, Bool.and_eq_true]
    unfold ringQ
    rw [decide_eq_true_eq]
    constructor
    · rintro (⟨h1, t, ht, h2⟩ | ⟨h1, h2⟩)
      · exact ⟨h1, t, by omega, h2⟩
      · exact ⟨h1, i, by omega, h2⟩
    · rintro ⟨h1, t, ht, h2⟩
      by_cases e : t = i
      · subst e; exact .inr ⟨h1, h2⟩
      · exact .inl ⟨h1, t, by omega, h2⟩
theorem minL_pos (n : Nat) (g : Nat → Int) (s : Int) (c W : Nat) : ∀ k, (0 < (minL n g s c W k).length ↔ ∃ t, t < k ∧ seenB n g s c W t = true)
  | 0 => by
    rw [show minL n g s c W 0 = [] from rfl]
    constructor
    · intro h; simp at h
    · rintro ⟨t, ht, _⟩; omega
  | k + 1 => by
    have ih := minL_pos n g s c W k
    cases e : seenB n g s c W k with
    | true =>
      rw [minL_yes e]
      constructor
      · intro _; exact ⟨k, by omega, e⟩
      · intro _; simp
    | false =>
      rw [minL_no e, ih]
      constructor
      · rintro ⟨t, ht, h⟩; exact ⟨t, by omega, h⟩
      · rintro ⟨t, ht, h⟩
        by_cases et : t = k
        · subst et; rw [e] at h; cases h
        · exact ⟨t, by omega, h⟩
theorem seenB_one {n : Nat} {g : Nat → Int} {s : Int} {c t : Nat} (ht : t < n) : seenB n g s c 1 t = decide (sq (g t) c ≤ s) := by
  unfold seenB
  rw [seenW, seenW, Bool.false_or, Nat.zero_mul, Nat.zero_div, Nat.add_zero, Nat.mod_eq_of_lt ht]
/-- Whether a cell is seen at all. -/
def sawQ (n : Nat) (g : Nat → Int) (s : Int) (k : Nat) : Bool := decide (0 < (minL n g s k 1 n).length)
theorem sawQ_iff {n : Nat} {g : Nat → Int} {s : Int} {k : Nat} : sawQ n g s k = true ↔ ∃ t, t < n ∧ sq (g t) k ≤ s := by
  unfold sawQ
  rw [decide_eq_true_eq]
  have h := minL_pos n g s k 1 n
  constructor
  · intro h0
    obtain ⟨t, ht, h1⟩ := h.1 (by omega)
    rw [seenB_one ht, decide_eq_true_eq] at h1
    exact ⟨t, ht, h1⟩
  · rintro ⟨t, ht, h1⟩
    have := h.2 ⟨t, ht, by rw [seenB_one ht]; exact decide_eq_true h1⟩
    omega
theorem saw_eq {f : Fd} {n : Nat} {g : Nat → Int} {s : Int} (hg : CellsG n g) : acells .u64 2 (sawSet f g s n) = acells .u64 2 (wantSet f (sawQ n g s) 100) :=
  set_ext (saw_N100 f g s n) (want_N100 _ _ _ (Nat.le_refl _)) (fun j hj => by
    rw [Bool.eq_iff_iff, hasC_saw f g s hj, hasC_want _ _ hj, decide_eq_true hj, Bool.true_and, Bool.and_eq_true, sawQ_iff]
    have e : ∀ t, t < n → ((g t).toNat : Int) = g t := fun t ht => by have := hg t ht; omega
    constructor
    · rintro ⟨h1, t, ht, h2⟩; rw [e t ht] at h2; exact ⟨h1, t, ht, h2⟩
    · rintro ⟨h1, t, ht, h2⟩; refine ⟨h1, t, ht, ?_⟩; rw [e t ht]; exact h2)
def seenSet (f : Fd) (n : Nat) (g : Nat → Int) (s : Int) : Nat → Int := if beatAsk f n g s true = 0 then wantSet f (sawQ n g s) 100 else fun _ => 0
section
variable {P : Program} {ops : Array Oper} {C : World → Prop} {l : List OpD} {Q : Act → Left → Prop} {o : Oper} {rest : List Oper} {k : Nat} {a : Act} {g : Left}
/-- The address of an element of a list. -/
theorem rel_indexB (t e : TypeId) (x ix : Operand) (ho : o.op = .indexAddr t x ix) (b off n c sz i : Nat) (hx : a.eval x = .slice (some ⟨b, off, none⟩) n c) (hix : a.eval ix = .int .i64 i) (hi : i < n) (hu : P.underlying t = some (.slice e)) (hsz : (P.info? e).map (·.size) = some sz)
    (hl : l[k]? = some (dV (.pointer (some ⟨b, off + i * sz, none⟩)))) (hw : Region.wanted o (yielded ops a.tmps) = true)
    (h2 : ∀ x, wpRel P ops C (DL l) Q rest (k + 1) (a.put o.dst (.pointer (some ⟨b, off + i * sz, none⟩))) (g.upd k x)) : wpRel P ops C (DL l) Q (o :: rest) k a g :=
  rel_val _ hl hw (fun w _ => by
    have he : P.elem t = e := by simp [Program.elem, hu]
    cases hie : P.info? e with
    | none => simp [hie] at hsz
    | some ie =>
      simp only [hie, Option.map_some, Option.some.injEq] at hsz
      have hr : (Instr.indexAt t (.slice (some ⟨b, off, none⟩) n c) (.int .i64 (i : Int))).run P w = .ok (.pointer (some ⟨b, off + i * sz, none⟩)) w := by
        rw [run_indexAt_slice _ _ _ _ _ _ _ (by rw [he]; exact hu), if_pos ⟨by omega, by omega⟩, he]
        simp [sizeOf, typeInfo, hie, hsz, Addr.add]
      unfold execOp
      simp only [ho, hx, hix, Sem.run_bind, hr, Result.andThen_ok, Sem.run_pure]) h2
end
theorem load_i16B (b off : Nat) (n : Int) (w : World) (c : w.cell? ⟨b, off, none⟩ = some (.int .i16 n)) : (Instr.loadAt 24 (.pointer (some ⟨b, off, none⟩))).run Tryd.prog w = .ok (.int .i16 n) w := by
  simp [go_sem, c]
end
section
open Go Go.RowKit

theorem i16_i64 {x : Int} (h1 : -32768 ≤ x) (h2 : x ≤ 32767) : IntKind.i64.wrap x = x := by
  rw [IntKind.wrap_i64]; omega
set_option maxRecDepth 100000 in
theorem seenBy_closure (n : Nat) (hn1 : 1 ≤ n) (hn2 : n ≤ 40) (g : Nat → Int) (hg : CellsG n g) (s : Int) (hs : 0 ≤ s ∧ s ≤ 50) (k : Nat) (hk : k < 100) (b c pb ps : Nat) (w : World) (I : InH w b 0 n g) (h1 : w.cell? ⟨pb, 0, none⟩ = some (.slice (some ⟨b, 0, none⟩) n c)) (h2 : w.cell? ⟨ps, 0, none⟩ = some (.int .i64 s)) :
    Calls Tryd.prog 57 #[.int .i64 k, .pointer (some ⟨pb, 0, none⟩), .pointer (some ⟨ps, 0, none⟩)] w fun e w' => e = .returned (.bool (sawQ n g s k)) ∧ Below w.heap.size w w' := by
  have HI := Lib.hid I
  have HG := Lib.hid hg
  clear I hg
  unfold sawQ
  obtain ⟨L, hL⟩ : ∃ L, (minL n g s k 1 n).length = L := ⟨_, rfl⟩
  have HL := Lib.hid hL
  have hL2 := minL_le n g s k 1 n
  rw [hL] at hL2 ⊢
  clear hL
  go_enter Tryd.func57, Tryd.ntmps57
  go_wp2_with (go_at_call 36; refine (minutesOf_any n hn1 hn2 g HG.out s hs k hk 1 (by omega) b c _ HI.out).mono ?_; rintro e W1 ⟨v, rfl, ho, hb⟩; obtain ⟨p, c1, rfl, _, _⟩ := Nown rfl ho; rw [HL.out]; clear ho)
  go_ret
  exact ⟨rfl, hb⟩
set_option maxRecDepth 100000 in
set_option maxHeartbeats 4000000 in
theorem seenBy_any (f : Fd) (hf : f.Wf) (hok : okF f = true) (n : Nat) (hn1 : 1 ≤ n) (hn2 : n ≤ 40) (g : Nat → Int) (hg : CellsG n g) (s : Int) (hs : 0 ≤ s ∧ s ≤ 50) (b c : Nat) (w : World) (I : InH w b 0 n g) :
    Calls Tryd.prog 41 #[.slice (some ⟨b, 0, none⟩) n c, .agg (fcells f), .int .i64 s] w fun e w' => e = .returned (.agg (acells .u64 2 (wantSet f (sawQ n g s) 100))) ∧ Below w.heap.size w w' := by
  have HI := Lib.hid I
  have HG := Lib.hid hg
  clear I hg
  go_enter Tryd.func41, Tryd.ntmps41
  go_upto_region 1 with (fail)
  rw [zero2]
  obtain ⟨W0, hW0, M0⟩ := open3 w (#[.slice (some ⟨b, 0, none⟩) n c]) 33 (fcells f) 31 (#[.int .i64 s]) 2
  have M : Mem w (W0.alloc (.cells (acells .u64 2 (fun _ => 0)) 43)) [⟨w.heap.size, #[.slice (some ⟨b, 0, none⟩) n c], 33⟩, ⟨w.heap.size + 1, fcells f, 31⟩, ⟨w.heap.size + 1 + 1, #[.int .i64 s], 2⟩, ⟨w.heap.size + 1 + 1 + 1, acells .u64 2 (fun _ => 0), 43⟩] := by
    have h := M0.alloc (acells .u64 2 (fun _ => 0)) 43
    have hs : W0.heap.size = w.heap.size + 1 + 1 + 1 := by rw [← hW0]; simp
    rw [hs] at h
    exact h
  rw [hW0]; clear hW0 M0
  generalize W0.alloc _ = W at M ⊢
  have HE : Hid ((fun w' => w'.cell? ⟨w.heap.size, 0, none⟩ = some (.slice (some ⟨b, 0, none⟩) n c) ∧ w'.cell? ⟨w.heap.size + 1 + 1, 0, none⟩ = some (.int .i64 s) ∧ InH w' b 0 n g) W) := Lib.hid ⟨(M.at 0 rfl).cell (i := 0) rfl, (M.at 2 rfl).cell (i := 0) rfl, HI.out.later M.below⟩
  go_wp2_with (first
    | (refine wpList_load_part rfl 31 _ rfl (w.heap.size + 1) 0 rfl (fcells f) _ (M.at 1 rfl).whole Tryd.underlying31 rfl (by rw [fcells_size]; exact sizeFd) ?_)
    | (go_at_call 54; refine (cellsWhere_any f hok 57 #[.pointer (some ⟨w.heap.size, 0, none⟩), .pointer (some ⟨w.heap.size + 1 + 1, 0, none⟩)] (sawQ n g s) (fun w' => w'.cell? ⟨w.heap.size, 0, none⟩ = some (.slice (some ⟨b, 0, none⟩) n c) ∧ w'.cell? ⟨w.heap.size + 1 + 1, 0, none⟩ = some (.int .i64 s) ∧ InH w' b 0 n g) (fun _ _ h hb => ⟨cell_later h.1 hb, cell_later h.2.1 hb, h.2.2.later hb⟩) (fun k w' hk h => seenBy_closure n hn1 hn2 g HG.out s hs k (isCell_lt hk) b c _ _ w' h.2.2 h.1 h.2.1) _ HE.out (enters_of Tryd.func57 (by kernel_rfl) rfl)).mono ?_; rintro e W5 ⟨rfl, hb5⟩; have M5 := M.call hb5; clear hb5)
    | (refine wpList_store_row rfl 43 _ _ rfl (w.heap.size + 1 + 1 + 1) (acells .u64 2 (wantSet f (sawQ n g s) 100)) rfl rfl 43 _ (M5.at 3 rfl) (by rw [acells_size]; exact sizeC) (by simp only [acells_size]) (acells_one _ _ _) ?_))
  have M6 := M5.row 3 rfl (acells .u64 2 (wantSet f (sawQ n g s) 100))
  exact bodyPost_ret (results_cell_row rfl _ _ (w.heap.size + 1 + 1 + 1) 43 _ _ _ rfl (M6.at 3 rfl) Tryd.underlying43 rfl (by rw [acells_size]; exact sizeC)) rfl ⟨rfl, M6.below⟩
end
section
open Go Go.RowKit

theorem open5 (w : World) (c1 : Array Value) (t1 : TypeId) (c2 : Array Value) (t2 : TypeId) (c3 : Array Value) (t3 : TypeId) (c4 : Array Value) (t4 : TypeId) (c5 : Array Value) (t5 : TypeId) :
    ∃ W, ((((w.alloc (.cells c1 t1)).alloc (.cells c2 t2)).alloc (.cells c3 t3)).alloc (.cells c4 t4)).alloc (.cells c5 t5) = W ∧ Mem w W [⟨w.heap.size, c1, t1⟩, ⟨w.heap.size + 1, c2, t2⟩, ⟨w.heap.size + 1 + 1, c3, t3⟩, ⟨w.heap.size + 1 + 1 + 1, c4, t4⟩, ⟨w.heap.size + 1 + 1 + 1 + 1, c5, t5⟩] := by
  have h := (((((Mem.nil w).alloc c1 t1).alloc c2 t2).alloc c3 t3).alloc c4 t4).alloc c5 t5
  simp only [World.size_alloc, List.nil_append, List.cons_append] at h
  exact ⟨_, rfl, h⟩
def gapV (n : Nat) (g : Nat → Int) (s : Int) (k : Nat) : Int := ((gmax n (seenB n g s k 1) n : Nat) : Int)
theorem gapV_saw {n : Nat} {g : Nat → Int} {s : Int} {c : Nat} (h : sawQ n g s c = true) : 0 < gapV n g s c := by
  obtain ⟨t, ht, h1⟩ := sawQ_iff.1 h
  have h2 : seenB n g s c 1 t = true := by rw [seenB_one ht]; exact decide_eq_true h1
  have h3 := gmax_ge (n := n) h2 ht
  have h5 : ∀ (fu m : Nat), m ≤ stepD n (seenB n g s c 1) t fu m := by
    intro fu
    induction fu with
    | zero => intro m; exact Nat.le_refl _
    | succ fu ih =>
      intro m
      rw [stepD]; split
      · exact Nat.le_refl _
      · have := ih (m + 1); omega
  have h4 : 1 ≤ dOf n (seenB n g s c 1) t := h5 n 1
  unfold gapV
  omega
theorem gapV_not {n : Nat} {g : Nat → Int} {s : Int} {c : Nat} (h : sawQ n g s c = false) : gapV n g s c = 0 := by
  unfold gapV
  rw [gmax_none (fun p hp => by
    cases e : seenB n g s c 1 p with
    | false => rfl
    | true =>
      rw [seenB_one hp, decide_eq_true_eq] at e
      rw [sawQ_iff.2 ⟨p, hp, e⟩] at h
      cases h)]
  rfl
def mostTo (m : Nat → Bool) (v : Nat → Int) (k : Nat) : Int := if bestTo m v k < 0 then 0 else v (bestTo m v k).toNat
theorem most_skip {m : Nat → Bool} {v : Nat → Int} {k : Nat} (h : m k = false) : bestTo m v (k + 1) = bestTo m v k ∧ mostTo m v (k + 1) = mostTo m v k := by
  have := best_no (v := v) h
  exact ⟨this, by unfold mostTo; rw [this]⟩
theorem most_up {m : Nat → Bool} {v : Nat → Int} {k : Nat} (h : m k = true) (h2 : mostTo m v k < v k) : bestTo m v (k + 1) = (k : Int) ∧ mostTo m v (k + 1) = v k := by
  have e : bestTo m v (k + 1) = (k : Int) := by
    rcases best_cases m v k with h1 | ⟨p, h1, _, _⟩
    · exact best_first h h1
    · refine best_more h h1 ?_
      unfold mostTo at h2
      rw [h1, if_neg (by omega), Int.toNat_natCast] at h2
      exact h2
  exact ⟨e, by unfold mostTo; rw [e, if_neg (by omega), Int.toNat_natCast]⟩
theorem most_keep {m : Nat → Bool} {v : Nat → Int} {k : Nat} (h0 : 0 < v k) (h2 : ¬ mostTo m v k < v k) : bestTo m v (k + 1) = bestTo m v k ∧ mostTo m v (k + 1) = mostTo m v k := by
  have e : bestTo m v (k + 1) = bestTo m v k := by
    rcases best_cases m v k with h1 | ⟨p, h1, _, _⟩
    · unfold mostTo at h2
      rw [h1, if_pos (by omega)] at h2
      omega
    · rw [h1]
      refine best_less h1 ?_
      unfold mostTo at h2
      rw [h1, if_neg (by omega), Int.toNat_natCast] at h2
      exact h2
  exact ⟨e, by unfold mostTo; rw [e]⟩
def wgAll (f : Fd) (n : Nat) (g : Nat → Int) (s : Int) (t : Nat → Int) : Bool := allTo 100 (fun k => !inSet f t k || sawQ n g s k)
def wgBest (f : Fd) (n : Nat) (g : Nat → Int) (s : Int) (t : Nat → Int) (k : Nat) : Int := bestTo (inSet f t) (gapV n g s) k
def wgMost (f : Fd) (n : Nat) (g : Nat → Int) (s : Int) (t : Nat → Int) (k : Nat) : Int := mostTo (inSet f t) (gapV n g s) k
def wgOk (f : Fd) (n : Nat) (g : Nat → Int) (s : Int) (t : Nat → Int) : Bool := wgAll f n g s t && decide (0 ≤ wgBest f n g s t 100)
theorem wgAll_no {f : Fd} {n : Nat} {g : Nat → Int} {s : Int} {t : Nat → Int} {k : Nat} (hk : k < 100) (h1 : inSet f t k = true) (h2 : sawQ n g s k = false) : wgOk f n g s t = false := by
  unfold wgOk wgAll
  rw [allTo_false hk (by show (!inSet f t k || sawQ n g s k) = false; rw [h1, h2]; rfl)]; rfl
theorem wgAll_yes {f : Fd} {n : Nat} {g : Nat → Int} {s : Int} {t : Nat → Int} (h : ∀ k, k < 100 → inSet f t k = true → sawQ n g s k = true) : wgAll f n g s t = true := by
  refine allTo_iff.2 (fun k hk => ?_)
  show (!inSet f t k || sawQ n g s k) = true
  cases e : inSet f t k with
  | false => rfl
  | true => rw [h k hk e]; rfl
theorem N100_mono {f : Nat → Int} (h : N100 f) : U64 f := h.1
/-- The targets of the field that are not seen, as a set: empty if all are. -/
theorem wg_words {f : Fd} {n : Nat} {g : Nat → Int} {s : Int} {t : Nat → Int} : wgAll f n g s t = true ↔ (opC .andNot (ins f t) (wantSet f (sawQ n g s) 100) 0 = 0 ∧ opC .andNot (ins f t) (wantSet f (sawQ n g s) 100) 1 = 0) := by
  rw [opC_cut]
  have hi : U64 (ins f t) := want_u64 f (fun k => hasC t (k : Int)) 100
  have hu := less_u64 hi (want_u64 f (sawQ n g s) 100)
  have hb : ∀ j : Nat, j < 100 → hasC (cutC (joinC .andNot (ins f t) (wantSet f (sawQ n g s) 100))) (j : Int) = (inSet f t j && !(isCell f j && sawQ n g s j)) := fun j hj => by
    rw [hasC_cut hu hj, hasC_less hi (want_u64 _ _ _) hj, hasC_ins f t hj, hasC_want f _ hj, decide_eq_true hj, Bool.true_and]
  constructor
  · intro h
    refine word_zero (cutC_N100 hu) (fun j hj => ?_)
    rw [hb j hj]
    have h1 := allTo_iff.1 h j hj
    have h2 : (!inSet f t j || sawQ n g s j) = true := h1
    unfold inSet at h2 ⊢
    cases e1 : isCell f (j : Int) <;> cases e2 : hasC t (j : Int) <;> cases e3 : sawQ n g s j <;> simp_all
  · intro h
    refine wgAll_yes (fun j hj h1 => ?_)
    have h2 : hasC (cutC (joinC .andNot (ins f t) (wantSet f (sawQ n g s) 100))) (j : Int) = hasC (fun _ => 0) (j : Int) := by unfold hasC; rw [h.1, h.2]
    rw [hasC_zero j hj, hb j hj, h1] at h2
    cases e3 : sawQ n g s j with
    | true => rfl
    | false => rw [e3, Bool.and_false] at h2; cases h2
set_option maxRecDepth 100000 in
set_option maxHeartbeats 8000000 in
theorem l05Worst_any (f : Fd) (hf : f.Wf) (n : Nat) (n1 : 1 ≤ n) (n2 : n ≤ 40) (g : Nat → Int) (hg : CellsG n g) (s : Int) (hs : 0 ≤ s ∧ s ≤ 50) (t : Nat → Int) (b0 b c bt : Nat) (w : World) (B : Blk w b0 (fcells f) 31) (I : InH w b 0 n g) (BTT : Blk w bt (acells .u64 2 t) 43) :
    Calls Tryd.prog 26 #[.pointer (some ⟨b0, 0, none⟩), .slice (some ⟨b, 0, none⟩) n c, .int .i64 s, .int .i64 1, .pointer (some ⟨bt, 0, none⟩)] w fun e w' => ∃ (X Y : Int) (ok : Bool), e = .returned (.tuple #[.int .i64 X, .int .i64 Y, .bool ok]) ∧ ok = wgOk f n g s t ∧ (ok = true → X = wgBest f n g s t 100 ∧ Y = wgMost f n g s t 100) ∧ Below w.heap.size w w' := by
  have HB := Lib.hid B
  have HI := Lib.hid I
  have HT := Lib.hid BTT
  have HG := Lib.hid hg
  clear B I BTT hg
  go_enter Tryd.func26, Tryd.ntmps26
  go_wp2_with fail
  go_loopw [13, 14, 15, 16] (fun x y i _ wr => ∃ (k : Nat) (X Y : Int), k ≤ 100 ∧ x = .int .i64 X ∧ y = .int .i64 Y ∧ i = .int .i64 k ∧ Hid (Below w.heap.size w wr) ∧ Hid (X = wgBest f n g s t k) ∧ Hid (Y = wgMost f n g s t k) ∧ Hid (∀ j, j < k → inSet f t j = true → sawQ n g s j = true)) (fun _ _ i _ _ => 100 - (intOf i).toNat)
  case atStart => exact ⟨0, -1, 0, by omega, rfl, rfl, rfl, Lib.hid (Below.refl _ _), Lib.hid rfl, Lib.hid rfl, Lib.hid (fun j hj => absurd hj (by omega))⟩
  case round =>
    obtain ⟨k, X, Y, hk, rfl, rfl, rfl, hBE, hX, hY, hall⟩ := hrel
    by_cases hlt : k < 100
    · have hB1 := Lib.hid (HB.out.later hBE.out)
      have hT1 := Lib.hid (HT.out.later hBE.out)
      have hI1 := Lib.hid (HI.out.later hBE.out)
      cases hic : isCell f (k : Int) with
      | false =>
        have hm : inSet f t k = false := by unfold inSet; rw [hic]; rfl
        have hsk := most_skip (v := gapV n g s) hm
        have h3 : Hid (X = wgBest f n g s t (k + 1)) := Lib.hid (hX.out.trans hsk.1.symm)
        have h4 : Hid (Y = wgMost f n g s t (k + 1)) := Lib.hid (hY.out.trans hsk.2.symm)
        have h5 : Hid (∀ j, j < k + 1 → inSet f t j = true → sawQ n g s j = true) := Lib.hid (fun j hj h => by
          by_cases e : j = k
          · rw [e, hm] at h; cases h
          · exact hall.out j (by omega) h)
        clear hsk hm
        go_wp2_with (go_at_call 18; refine (l01Is_any f _ _ _ hf.W hf.H hB1.out).mono ?_; rintro e w' ⟨rfl, rfl⟩; rw [hic])
        go_roundw
        case rel => exact ⟨k + 1, X, Y, by omega, rfl, rfl, by go_num, hBE, h3, h4, h5⟩
        case measure => simp [intOf]; omega
      | true =>
        cases hhc : hasC t (k : Int) with
        | false =>
          have hm : inSet f t k = false := by unfold inSet; rw [hic, hhc]; rfl
          have hsk := most_skip (v := gapV n g s) hm
          have h3 : Hid (X = wgBest f n g s t (k + 1)) := Lib.hid (hX.out.trans hsk.1.symm)
          have h4 : Hid (Y = wgMost f n g s t (k + 1)) := Lib.hid (hY.out.trans hsk.2.symm)
          have h5 : Hid (∀ j, j < k + 1 → inSet f t j = true → sawQ n g s j = true) := Lib.hid (fun j hj h => by
            by_cases e : j = k
            · rw [e, hm] at h; cases h
            · exact hall.out j (by omega) h)
          clear hsk hm
          go_wp2_with (first
            | (go_at_call 18; refine (l01Is_any f _ _ _ hf.W hf.H hB1.out).mono ?_; rintro e w' ⟨rfl, rfl⟩; rw [hic])
            | (go_at_call 38; refine (l01Has_any t _ _ _ hT1.out).mono ?_; rintro e w' ⟨rfl, rfl⟩; rw [hhc]))
          go_roundw
          case rel => exact ⟨k + 1, X, Y, by omega, rfl, rfl, by go_num, hBE, h3, h4, h5⟩
          case measure => simp [intOf]; omega
        | true =>
          have hm : inSet f t k = true := by unfold inSet; rw [hic, hhc]; rfl
          obtain ⟨G, hG⟩ : ∃ G, gmax n (seenB n g s k 1) n = G := ⟨_, rfl⟩
          have hGV : gapV n g s k = (G : Int) := by unfold gapV; rw [hG]
          have HGG := Lib.hid hG
          clear hG
          cases hsq : sawQ n g s k with
          | false =>
            have hz : G = 0 := by have := gapV_not hsq; omega
            subst hz
            have hno : Hid (wgOk f n g s t = false) := Lib.hid (wgAll_no hlt hm hsq)
            clear hm hGV hsq
            go_wp2_with (first
              | (go_at_call 18; refine (l01Is_any f _ _ _ hf.W hf.H hB1.out).mono ?_; rintro e w' ⟨rfl, rfl⟩; rw [hic])
              | (go_at_call 38; refine (l01Has_any t _ _ _ hT1.out).mono ?_; rintro e w' ⟨rfl, rfl⟩; rw [hhc])
              | (go_at_call 21; refine (l05Gap_any n n1 n2 g HG.out s hs k hlt 1 (by omega) b c _ hI1.out).mono ?_; rintro e W2 ⟨rfl, hb⟩; rw [HGG.out]; have HB2 := Lib.hid (hBE.out.trans (hb.mono hBE.out.size)); clear hb))
            go_ret3
            exact ⟨0, 0, false, rfl, hno.out.symm, (fun h => by cases h), HB2.out⟩
          | true =>
            have hpos := gapV_saw hsq
            have h5 : Hid (∀ j, j < k + 1 → inSet f t j = true → sawQ n g s j = true) := Lib.hid (fun j hj h => by
              by_cases e : j = k
              · rw [e]; exact hsq
              · exact hall.out j (by omega) h)
            have hd0 : ((G : Int) == 0) = false := by simp; omega
            by_cases hgt : Y < (G : Int)
            · have hup := most_up hm (show mostTo (inSet f t) (gapV n g s) k < gapV n g s k by rw [hGV]; have := hY.out; unfold wgMost at this; omega)
              have h3 : Hid ((k : Int) = wgBest f n g s t (k + 1)) := Lib.hid hup.1.symm
              have h4 : Hid ((G : Int) = wgMost f n g s t (k + 1)) := Lib.hid (hGV.symm.trans hup.2.symm)
              clear hup hm hGV hsq hpos
              go_wp2_with (first
                | (go_at_call 18; refine (l01Is_any f _ _ _ hf.W hf.H hB1.out).mono ?_; rintro e w' ⟨rfl, rfl⟩; rw [hic])
                | (go_at_call 38; refine (l01Has_any t _ _ _ hT1.out).mono ?_; rintro e w' ⟨rfl, rfl⟩; rw [hhc])
                | (go_at_call 21; refine (l05Gap_any n n1 n2 g HG.out s hs k hlt 1 (by omega) b c _ hI1.out).mono ?_; rintro e W2 ⟨rfl, hb⟩; rw [HGG.out]; have HB2 := Lib.hid (hBE.out.trans (hb.mono hBE.out.size)); clear hb))
              go_roundw
              case rel => exact ⟨k + 1, (k : Int), (G : Int), by omega, rfl, rfl, by go_num, HB2, h3, h4, h5⟩
              case measure => simp [intOf]; omega
            · have hup := most_keep (m := inSet f t) hpos (show ¬ mostTo (inSet f t) (gapV n g s) k < gapV n g s k by rw [hGV]; have := hY.out; unfold wgMost at this; omega)
              have h3 : Hid (X = wgBest f n g s t (k + 1)) := Lib.hid (hX.out.trans hup.1.symm)
              have h4 : Hid (Y = wgMost f n g s t (k + 1)) := Lib.hid (hY.out.trans hup.2.symm)
              have hd1 : decide (Y < (G : Int)) = false := decide_eq_false hgt
              clear hup hm hGV hsq hpos hgt
              go_wp2_with (first
                | (go_at_call 18; refine (l01Is_any f _ _ _ hf.W hf.H hB1.out).mono ?_; rintro e w' ⟨rfl, rfl⟩; rw [hic])
                | (go_at_call 38; refine (l01Has_any t _ _ _ hT1.out).mono ?_; rintro e w' ⟨rfl, rfl⟩; rw [hhc])
                | (go_at_call 21; refine (l05Gap_any n n1 n2 g HG.out s hs k hlt 1 (by omega) b c _ hI1.out).mono ?_; rintro e W2 ⟨rfl, hb⟩; rw [HGG.out]; have HB2 := Lib.hid (hBE.out.trans (hb.mono hBE.out.size)); clear hb))
              go_roundw
              case rel => exact ⟨k + 1, X, Y, by omega, rfl, rfl, by go_num, HB2, h3, h4, h5⟩
              case measure => simp [intOf]; omega
    · obtain rfl : k = 100 := by omega
      have hok : Hid (decide (0 ≤ X) = wgOk f n g s t) := Lib.hid (by unfold wgOk; rw [wgAll_yes hall.out, ← hX.out]; rfl)
      go_wp2_with fail
      go_ret3
      exact ⟨X, Y, _, rfl, hok.out, (fun _ => ⟨hX.out, hY.out⟩), hBE.out⟩
end
section
open Go Go.RowKit

theorem load_slB (b off : Nat) (v : Value) (p : Option Addr) (n c : Nat) (hv : v = .slice p n c) (w : World) (h : w.cell? ⟨b, off, none⟩ = some v) : (Instr.loadAt 33 (.pointer (some ⟨b, off, none⟩))).run Tryd.prog w = .ok v w := by
  subst hv
  simp [go_sem, h]
def wgCode (f : Fd) (n : Nat) (g : Nat → Int) (s : Int) (t : Nat → Int) : Int := if beatAsk f n g s true = 0 then (if wgOk f n g s t then 0 else 6) else beatAsk f n g s true
def wgCell (f : Fd) (n : Nat) (g : Nat → Int) (s : Int) (t : Nat → Int) : Int := if wgCode f n g s t = 0 then wgBest f n g s t 100 else 0
def wgGap (f : Fd) (n : Nat) (g : Nat → Int) (s : Int) (t : Nat → Int) : Int := if wgCode f n g s t = 0 then wgMost f n g s t 100 else 0
theorem wg_bad {f : Fd} {n : Nat} {g : Nat → Int} {s : Int} {t : Nat → Int} {c : Int} (h : wgCode f n g s t = c) (hc : c ≠ 0) : wgCell f n g s t = 0 ∧ wgGap f n g s t = 0 := by
  unfold wgCell wgGap; rw [h, if_neg hc, if_neg hc]; exact ⟨rfl, rfl⟩
theorem wg_good {f : Fd} {n : Nat} {g : Nat → Int} {s : Int} {t : Nat → Int} (h : wgCode f n g s t = 0) : wgCell f n g s t = wgBest f n g s t 100 ∧ wgGap f n g s t = wgMost f n g s t 100 := by
  unfold wgCell wgGap; rw [h, if_pos rfl, if_pos rfl]; exact ⟨rfl, rfl⟩
set_option maxRecDepth 100000 in
set_option maxHeartbeats 4000000 in
theorem specWorstGap (f : Fd) (hf : f.Wf) (n : Nat) (hn : n ≤ 2 ^ 40) (g : Nat → Int) (hg : WfH n g) (s : Int) (t : Nat → Int) (b c : Nat) (w : World) (I : InH w b 0 n g) :
    Calls Tryd.prog 13 #[.agg (fcells f), .slice (some ⟨b, 0, none⟩) n c, .int .i64 s, .agg (acells .u64 2 t)] w fun e w' => e = .returned (.tuple #[.int .i64 (wgCell f n g s t), .int .i64 (wgGap f n g s t), .int .i64 (wgCode f n g s t)]) ∧ Below w.heap.size w w' := by
  have HI := Lib.hid I
  clear I
  obtain ⟨c0, hc0⟩ : ∃ y, beatAsk f n g s true = y := ⟨_, rfl⟩
  have HC := Lib.hid hc0
  by_cases hz : c0 = 0
  · subst hz
    obtain ⟨h1, hs, _⟩ := beatAsk_0 hc0
    obtain ⟨_, n1, n2⟩ := okB_iff h1
    have HG := Lib.hid (CellsG.of (okB_ok h1))
    have HW : Hid (wgCode f n g s t = if wgOk f n g s t then 0 else 6) := Lib.hid (by unfold wgCode; rw [HC.out, if_pos rfl])
    clear h1 hc0
    go_enter Tryd.func13, Tryd.ntmps13
    go_upto_region 1 with (fail)
    obtain ⟨W, hW, M⟩ := open2 w (fcells f) 31 (acells .u64 2 t) 43
    rw [hW]; clear hW
    go_upto_region 5 with (first
      | (go_at_call 20; refine (l05Asked_any f hf n hn g hg s true _ b c _ (M.at 0 rfl) (HI.out.later M.below)).mono ?_; rintro e w' ⟨rfl, rfl⟩; rw [HC.out])
      | (go_at_call 26; refine (l05Worst_any f hf n n1 n2 g HG.out s hs t _ b c _ _ (M.at 0 rfl) (HI.out.later M.below) (M.at 1 rfl)).mono ?_; rintro e W2 ⟨X, Y, ok, rfl, h1, h2, hb⟩; have H1 := Lib.hid h1; have H2 := Lib.hid h2; have M2 := M.call hb; clear h1 h2 hb))
    cases ok with
    | false =>
      have hcode : wgCode f n g s t = 6 := by rw [HW.out, ← H1.out]; rfl
      have hbad := Lib.hid (wg_bad hcode (by decide))
      have HCD := Lib.hid hcode
      clear hcode
      go_wp2_with fail
      go_ret3
      exact ⟨by rw [hbad.out.1, hbad.out.2, HCD.out]; rfl, M2.below⟩
    | true =>
      have hcode : wgCode f n g s t = 0 := by rw [HW.out, ← H1.out]; rfl
      have hgood := Lib.hid (wg_good hcode)
      have HXY := Lib.hid (H2.out rfl)
      have HCD := Lib.hid hcode
      clear hcode
      go_wp2_with fail
      go_ret3
      exact ⟨by rw [hgood.out.1, hgood.out.2, HCD.out, ← HXY.out.1, ← HXY.out.2]; rfl, M2.below⟩
  · have hne : (c0 != 0) = true := by simpa using hz
    have hcode : wgCode f n g s t = c0 := by unfold wgCode; rw [hc0, if_neg hz]
    have hbad := wg_bad hcode hz
    rw [hbad.1, hbad.2, hcode]
    clear hbad hcode hc0 hz
    go_enter Tryd.func13, Tryd.ntmps13
    go_upto_region 1 with (fail)
    obtain ⟨W, hW, M⟩ := open2 w (fcells f) 31 (acells .u64 2 t) 43
    rw [hW]; clear hW
    go_wp2_with (go_at_call 20; refine (l05Asked_any f hf n hn g hg s true _ b c _ (M.at 0 rfl) (HI.out.later M.below)).mono ?_; rintro e w' ⟨rfl, rfl⟩; rw [HC.out])
    go_ret3
    exact ⟨rfl, M.below⟩
set_option maxRecDepth 100000 in
theorem worst_closure (n : Nat) (hn1 : 1 ≤ n) (hn2 : n ≤ 40) (g : Nat → Int) (hg : CellsG n g) (s : Int) (hs : 0 ≤ s ∧ s ≤ 50) (k : Nat) (hk : k < 100) (b c p1 p2 p3 : Nat) (w : World) (I : InH w b 0 n g) (h1 : w.cell? ⟨p1, 0, none⟩ = some (.slice (some ⟨b, 0, none⟩) n c)) (h2 : w.cell? ⟨p2, 0, none⟩ = some (.int .i64 s)) (h3 : w.cell? ⟨p3, 0, none⟩ = some (.int .i64 1)) :
    Calls Tryd.prog 42 #[.int .i64 k, .pointer (some ⟨p1, 0, none⟩), .pointer (some ⟨p2, 0, none⟩), .pointer (some ⟨p3, 0, none⟩)] w fun e w' => e = .returned (.int .i64 (gapV n g s k)) ∧ Below w.heap.size w w' := by
  have HI := Lib.hid I
  have HG := Lib.hid hg
  clear I hg
  unfold gapV
  obtain ⟨G, hG⟩ : ∃ G, gmax n (seenB n g s k 1) n = G := ⟨_, rfl⟩
  rw [hG]
  have HGG := Lib.hid hG
  clear hG
  go_enter Tryd.func42, Tryd.ntmps42
  go_wp2_with (go_at_call 25; refine (gapOf_any n hn1 hn2 g HG.out s hs k hk 1 (by omega) b c _ HI.out).mono ?_; rintro e W1 ⟨rfl, hb⟩; rw [HGG.out])
  go_ret
  exact ⟨rfl, hb⟩
set_option maxRecDepth 100000 in
set_option maxHeartbeats 8000000 in
theorem worstOf_unseen (f : Fd) (hf : f.Wf) (hokf : okF f = true) (n : Nat) (n1 : 1 ≤ n) (n2 : n ≤ 40) (g : Nat → Int) (hg : CellsG n g) (s : Int) (hs : 0 ≤ s ∧ s ≤ 50) (t : Nat → Int) (hal : wgAll f n g s t = false) (b c : Nat) (A : Nat → Addr) (w : World) (I : InH w b 0 n g) (S0 : Sents w A) :
    Calls Tryd.prog 27 #[.slice (some ⟨b, 0, none⟩) n c, .agg (fcells f), .int .i64 s, .agg (acells .u64 2 t), .int .i64 1] w fun e w' => e = .returned (.tuple #[.int .i64 0, .int .i64 0, errVal (A 6)]) ∧ Below w.heap.size w w' := by
  have S : Hid (Sents w A) := Lib.hid S0
  have HI := Lib.hid I
  have HG := Lib.hid hg
  clear S0 I hg
  have hif := isIfaceErr
  have HD : Hid (false = true ↔ (opC .andNot (ins f t) (wantSet f (sawQ n g s) 100) 0 = 0 ∧ opC .andNot (ins f t) (wantSet f (sawQ n g s) 100) 1 = 0)) := Lib.hid (by rw [← wg_words, hal])
  go_enter Tryd.func27, Tryd.ntmps27
  go_upto_region 1 with (fail)
  obtain ⟨W, hW, M⟩ := open5 w (#[.slice (some ⟨b, 0, none⟩) n c]) 33 (fcells f) 31 (#[.int .i64 s]) 2 (acells .u64 2 t) 43 (#[.int .i64 1]) 2
  rw [hW]; clear hW
  refine wp_region_rel (DL [dV (.agg (fcells f)), dV (.agg (acells .u64 2 t)), dV (.agg (acells .u64 2 (wantSet f (fun k => hasC t (k : Int)) 100))), dV (.slice (some ⟨b, 0, none⟩) n c), dV (.agg (fcells f)), dV (.int .i64 s), dV (.agg (acells .u64 2 (wantSet f (sawQ n g s) 100))), dV (.agg (acells .u64 2 (opC .andNot (ins f t) (wantSet f (sawQ n g s) 100)))), dV (.agg (acells .u64 2 (fun _ => 0))), dV (.bool (!false))]) (fun w' => Mem w w' [⟨w.heap.size, #[.slice (some ⟨b, 0, none⟩) n c], 33⟩, ⟨w.heap.size + 1, fcells f, 31⟩, ⟨w.heap.size + 1 + 1, #[.int .i64 s], 2⟩, ⟨w.heap.size + 1 + 1 + 1, acells .u64 2 t, 43⟩, ⟨w.heap.size + 1 + 1 + 1 + 1, #[.int .i64 1], 2⟩]) (by kernel_rfl) (by kernel_rfl) grows_mem
    (stays_DL (fun d hd => by
      simp only [List.mem_cons, List.mem_nil_iff, or_false] at hd
      rcases hd with rfl | rfl | rfl | rfl | rfl | rfl | rfl | rfl | rfl | rfl <;> exact stay_V)) M.drew ?_
  refine rel_load 31 _ rfl (w.heap.size + 1) 0 rfl (fcells f) _ rfl rfl (fun w' hw' => (hw'.at 1 rfl).whole) Tryd.underlying31 rfl (by rw [fcells_size]; exact sizeFd) (fun _ => ?_)
  simp only [Act.put, List.setIfInBounds_toArray, List.set_cons_zero, List.set_cons_succ]
  refine rel_load 43 _ rfl (w.heap.size + 1 + 1 + 1) 0 rfl (acells .u64 2 t) _ rfl rfl (fun w' hw' => (hw'.at 3 rfl).whole) Tryd.underlying43 rfl (by rw [acells_size]; exact sizeC) (fun _ => ?_)
  simp only [Act.put, List.setIfInBounds_toArray, List.set_cons_zero, List.set_cons_succ]
  refine rel_call (.agg (acells .u64 2 (wantSet f (fun k => hasC t (k : Int)) 100))) 40 #[.agg (fcells f), .agg (acells .u64 2 t)] rfl rfl rfl rfl (enters_of Tryd.func40 (by kernel_rfl) rfl) (fun w' _ => inField_any f hokf t w') (fun _ => ?_)
  simp only [Act.put, List.setIfInBounds_toArray, List.set_cons_zero, List.set_cons_succ]
  refine rel_cell 33 _ rfl w.heap.size 0 rfl (.slice (some ⟨b, 0, none⟩) n c) rfl rfl (fun w' c => load_slB _ _ _ _ _ _ rfl w' c) (fun w' hw' => (hw'.at 0 rfl).cell (i := 0) rfl) (fun _ => ?_)
  simp only [Act.put, List.setIfInBounds_toArray, List.set_cons_zero, List.set_cons_succ]
  refine rel_load 31 _ rfl (w.heap.size + 1) 0 rfl (fcells f) _ rfl rfl (fun w' hw' => (hw'.at 1 rfl).whole) Tryd.underlying31 rfl (by rw [fcells_size]; exact sizeFd) (fun _ => ?_)
  simp only [Act.put, List.setIfInBounds_toArray, List.set_cons_zero, List.set_cons_succ]
  refine rel_cell 2 _ rfl (w.heap.size + 1 + 1) 0 rfl (.int .i64 s) rfl rfl (fun w' c => load_n64 _ _ _ w' c) (fun w' hw' => (hw'.at 2 rfl).cell (i := 0) rfl) (fun _ => ?_)
  simp only [Act.put, List.setIfInBounds_toArray, List.set_cons_zero, List.set_cons_succ]
  refine rel_call (.agg (acells .u64 2 (wantSet f (sawQ n g s) 100))) 41 #[.slice (some ⟨b, 0, none⟩) n c, .agg (fcells f), .int .i64 s] rfl rfl rfl rfl (enters_of Tryd.func41 (by kernel_rfl) rfl) (fun w' hw' => seenBy_any f hf hokf n n1 n2 g HG.out s hs b c w' (HI.out.later hw'.below)) (fun _ => ?_)
  simp only [Act.put, List.setIfInBounds_toArray, List.set_cons_zero, List.set_cons_succ]
  refine rel_call (.agg (acells .u64 2 (opC .andNot (ins f t) (wantSet f (sawQ n g s) 100)))) 39 #[.agg (acells .u64 2 (wantSet f (fun k => hasC t (k : Int)) 100)), .agg (acells .u64 2 (wantSet f (sawQ n g s) 100))] rfl rfl rfl rfl (enters_of Tryd.func39 (by kernel_rfl) rfl) (fun w' _ => implWithoutOf (ins f t) (wantSet f (sawQ n g s) 100) w') (fun _ => ?_)
  simp only [Act.put, List.setIfInBounds_toArray, List.set_cons_zero, List.set_cons_succ]
  refine rel_val (.agg (acells .u64 2 (fun _ => 0))) rfl rfl (fun _ _ => by kernel_rfl) (fun _ => ?_)
  simp only [Act.put, List.setIfInBounds_toArray, List.set_cons_zero, List.set_cons_succ]
  refine rel_neq 43 _ _ _ rfl (acells .u64 2 (opC .andNot (ins f t) (wantSet f (sawQ n g s) 100))) (acells .u64 2 (fun _ => 0)) rfl rfl false rfl rfl (by kernel_rfl) (fun w' => run_equalIn_cells _ _ (by rw [opC_cut]; exact (cutC_N100 (less_u64 (want_u64 _ _ _) (want_u64 _ _ _))).1) zero_u64 false HD.out w') (fun _ => ?_)
  simp only [Act.put, List.setIfInBounds_toArray, List.set_cons_zero, List.set_cons_succ]
  refine rel_nil (fun W2 inv => ?_)
  have M2 := inv.cls
  clear inv M
  have hv6 := (S.out.later M2.below).v6
  go_wp2_with fail
  go_region
  all_goals go_wp2_with fail
  all_goals exact bodyPost_ret (v := .tuple #[.int .i64 0, .int .i64 0, errVal (A 6)]) (by simp [results, Tryd.results27, go_sem]) rfl ⟨rfl, M2.drew.below⟩
set_option maxRecDepth 100000 in
set_option maxHeartbeats 8000000 in
theorem worstOf_none (f : Fd) (hf : f.Wf) (hokf : okF f = true) (n : Nat) (n1 : 1 ≤ n) (n2 : n ≤ 40) (g : Nat → Int) (hg : CellsG n g) (s : Int) (hs : 0 ≤ s ∧ s ≤ 50) (t : Nat → Int) (hal : wgAll f n g s t = true) (hbest : wgBest f n g s t 100 = -1) (b c : Nat) (A : Nat → Addr) (w : World) (I : InH w b 0 n g) (S0 : Sents w A) :
    Calls Tryd.prog 27 #[.slice (some ⟨b, 0, none⟩) n c, .agg (fcells f), .int .i64 s, .agg (acells .u64 2 t), .int .i64 1] w fun e w' => e = .returned (.tuple #[.int .i64 0, .int .i64 0, errVal (A 6)]) ∧ Below w.heap.size w w' := by
  have S : Hid (Sents w A) := Lib.hid S0
  have HI := Lib.hid I
  have HG := Lib.hid hg
  clear S0 I hg
  have hif := isIfaceErr
  have HD : Hid (true = true ↔ (opC .andNot (ins f t) (wantSet f (sawQ n g s) 100) 0 = 0 ∧ opC .andNot (ins f t) (wantSet f (sawQ n g s) 100) 1 = 0)) := Lib.hid (by rw [← wg_words, hal])
  go_enter Tryd.func27, Tryd.ntmps27
  go_upto_region 1 with (fail)
  obtain ⟨W, hW, M⟩ := open5 w (#[.slice (some ⟨b, 0, none⟩) n c]) 33 (fcells f) 31 (#[.int .i64 s]) 2 (acells .u64 2 t) 43 (#[.int .i64 1]) 2
  rw [hW]; clear hW
  refine wp_region_rel (DL [dV (.agg (fcells f)), dV (.agg (acells .u64 2 t)), dV (.agg (acells .u64 2 (wantSet f (fun k => hasC t (k : Int)) 100))), dV (.slice (some ⟨b, 0, none⟩) n c), dV (.agg (fcells f)), dV (.int .i64 s), dV (.agg (acells .u64 2 (wantSet f (sawQ n g s) 100))), dV (.agg (acells .u64 2 (opC .andNot (ins f t) (wantSet f (sawQ n g s) 100)))), dV (.agg (acells .u64 2 (fun _ => 0))), dV (.bool (!true))]) (fun w' => Mem w w' [⟨w.heap.size, #[.slice (some ⟨b, 0, none⟩) n c], 33⟩, ⟨w.heap.size + 1, fcells f, 31⟩, ⟨w.heap.size + 1 + 1, #[.int .i64 s], 2⟩, ⟨w.heap.size + 1 + 1 + 1, acells .u64 2 t, 43⟩, ⟨w.heap.size + 1 + 1 + 1 + 1, #[.int .i64 1], 2⟩]) (by kernel_rfl) (by kernel_rfl) grows_mem
    (stays_DL (fun d hd => by
      simp only [List.mem_cons, List.mem_nil_iff, or_false] at hd
      rcases hd with rfl | rfl | rfl | rfl | rfl | rfl | rfl | rfl | rfl | rfl <;> exact stay_V)) M.drew ?_
  refine rel_load 31 _ rfl (w.heap.size + 1) 0 rfl (fcells f) _ rfl rfl (fun w' hw' => (hw'.at 1 rfl).whole) Tryd.underlying31 rfl (by rw [fcells_size]; exact sizeFd) (fun _ => ?_)
  simp only [Act.put, List.setIfInBounds_toArray, List.set_cons_zero, List.set_cons_succ]
  refine rel_load 43 _ rfl (w.heap.size + 1 + 1 + 1) 0 rfl (acells .u64 2 t) _ rfl rfl (fun w' hw' => (hw'.at 3 rfl).whole) Tryd.underlying43 rfl (by rw [acells_size]; exact sizeC) (fun _ => ?_)
  simp only [Act.put, List.setIfInBounds_toArray, List.set_cons_zero, List.set_cons_succ]
  refine rel_call (.agg (acells .u64 2 (wantSet f (fun k => hasC t (k : Int)) 100))) 40 #[.agg (fcells f), .agg (acells .u64 2 t)] rfl rfl rfl rfl (enters_of Tryd.func40 (by kernel_rfl) rfl) (fun w' _ => inField_any f hokf t w') (fun _ => ?_)
  simp only [Act.put, List.setIfInBounds_toArray, List.set_cons_zero, List.set_cons_succ]
  refine rel_cell 33 _ rfl w.heap.size 0 rfl (.slice (some ⟨b, 0, none⟩) n c) rfl rfl (fun w' c => load_slB _ _ _ _ _ _ rfl w' c) (fun w' hw' => (hw'.at 0 rfl).cell (i := 0) rfl) (fun _ => ?_)
  simp only [Act.put, List.setIfInBounds_toArray, List.set_cons_zero, List.set_cons_succ]
  refine rel_load 31 _ rfl (w.heap.size + 1) 0 rfl (fcells f) _ rfl rfl (fun w' hw' => (hw'.at 1 rfl).whole) Tryd.underlying31 rfl (by rw [fcells_size]; exact sizeFd) (fun _ => ?_)
  simp only [Act.put, List.setIfInBounds_toArray, List.set_cons_zero, List.set_cons_succ]
  refine rel_cell 2 _ rfl (w.heap.size + 1 + 1) 0 rfl (.int .i64 s) rfl rfl (fun w' c => load_n64 _ _ _ w' c) (fun w' hw' => (hw'.at 2 rfl).cell (i := 0) rfl) (fun _ => ?_)
  simp only [Act.put, List.setIfInBounds_toArray, List.set_cons_zero, List.set_cons_succ]
  refine rel_call (.agg (acells .u64 2 (wantSet f (sawQ n g s) 100))) 41 #[.slice (some ⟨b, 0, none⟩) n c, .agg (fcells f), .int .i64 s] rfl rfl rfl rfl (enters_of Tryd.func41 (by kernel_rfl) rfl) (fun w' hw' => seenBy_any f hf hokf n n1 n2 g HG.out s hs b c w' (HI.out.later hw'.below)) (fun _ => ?_)
  simp only [Act.put, List.setIfInBounds_toArray, List.set_cons_zero, List.set_cons_succ]
  refine rel_call (.agg (acells .u64 2 (opC .andNot (ins f t) (wantSet f (sawQ n g s) 100)))) 39 #[.agg (acells .u64 2 (wantSet f (fun k => hasC t (k : Int)) 100)), .agg (acells .u64 2 (wantSet f (sawQ n g s) 100))] rfl rfl rfl rfl (enters_of Tryd.func39 (by kernel_rfl) rfl) (fun w' _ => implWithoutOf (ins f t) (wantSet f (sawQ n g s) 100) w') (fun _ => ?_)
  simp only [Act.put, List.setIfInBounds_toArray, List.set_cons_zero, List.set_cons_succ]
  refine rel_val (.agg (acells .u64 2 (fun _ => 0))) rfl rfl (fun _ _ => by kernel_rfl) (fun _ => ?_)
  simp only [Act.put, List.setIfInBounds_toArray, List.set_cons_zero, List.set_cons_succ]
  refine rel_neq 43 _ _ _ rfl (acells .u64 2 (opC .andNot (ins f t) (wantSet f (sawQ n g s) 100))) (acells .u64 2 (fun _ => 0)) rfl rfl true rfl rfl (by kernel_rfl) (fun w' => run_equalIn_cells _ _ (by rw [opC_cut]; exact (cutC_N100 (less_u64 (want_u64 _ _ _) (want_u64 _ _ _))).1) zero_u64 true HD.out w') (fun _ => ?_)
  simp only [Act.put, List.setIfInBounds_toArray, List.set_cons_zero, List.set_cons_succ]
  refine rel_nil (fun W2 inv => ?_)
  have M2 := inv.cls
  clear inv M
  go_wp2_with (first
    | (refine wpList_load_part rfl 31 _ rfl (w.heap.size + 1) 0 rfl (fcells f) _ (M2.at 1 rfl).whole Tryd.underlying31 rfl (by rw [fcells_size]; exact sizeFd) ?_)
    | (refine wpList_load_part rfl 43 _ rfl (w.heap.size + 1 + 1 + 1) 0 rfl (acells .u64 2 t) _ (M2.at 3 rfl).whole Tryd.underlying43 rfl (by rw [acells_size]; exact sizeC) ?_)
    | (go_at_call 43; refine (bestIn_none f hokf t 42 #[.pointer (some ⟨w.heap.size, 0, none⟩), .pointer (some ⟨w.heap.size + 1 + 1, 0, none⟩), .pointer (some ⟨w.heap.size + 1 + 1 + 1 + 1, 0, none⟩)] (gapV n g s) hbest A _ (S.out.later M2.below)).mono ?_; rintro e W3 ⟨rfl, hb⟩; have M3 := M2.call hb; have hv6 := (S.out.later M3.below).v6; clear hb))
  go_ret3
  exact ⟨rfl, M3.below⟩
set_option maxRecDepth 100000 in
set_option maxHeartbeats 8000000 in
theorem worstOf_good (f : Fd) (hf : f.Wf) (hokf : okF f = true) (n : Nat) (n1 : 1 ≤ n) (n2 : n ≤ 40) (g : Nat → Int) (hg : CellsG n g) (s : Int) (hs : 0 ≤ s ∧ s ≤ 50) (t : Nat → Int) (hal : wgAll f n g s t = true) (k : Nat) (hk : k < 100) (hbest : wgBest f n g s t 100 = (k : Int)) (b c : Nat) (A : Nat → Addr) (w : World) (I : InH w b 0 n g) (S0 : Sents w A) :
    Calls Tryd.prog 27 #[.slice (some ⟨b, 0, none⟩) n c, .agg (fcells f), .int .i64 s, .agg (acells .u64 2 t), .int .i64 1] w fun e w' => e = .returned (.tuple #[.int .i64 (k : Int), .int .i64 (gapV n g s k), .nilIface]) ∧ Below w.heap.size w w' := by
  have S : Hid (Sents w A) := Lib.hid S0
  have HI := Lib.hid I
  have HG := Lib.hid hg
  clear S0 I hg
  have hif := isIfaceErr
  have HD : Hid (true = true ↔ (opC .andNot (ins f t) (wantSet f (sawQ n g s) 100) 0 = 0 ∧ opC .andNot (ins f t) (wantSet f (sawQ n g s) 100) 1 = 0)) := Lib.hid (by rw [← wg_words, hal])
  go_enter Tryd.func27, Tryd.ntmps27
  go_upto_region 1 with (fail)
  obtain ⟨W, hW, M⟩ := open5 w (#[.slice (some ⟨b, 0, none⟩) n c]) 33 (fcells f) 31 (#[.int .i64 s]) 2 (acells .u64 2 t) 43 (#[.int .i64 1]) 2
  rw [hW]; clear hW
  refine wp_region_rel (DL [dV (.agg (fcells f)), dV (.agg (acells .u64 2 t)), dV (.agg (acells .u64 2 (wantSet f (fun k => hasC t (k : Int)) 100))), dV (.slice (some ⟨b, 0, none⟩) n c), dV (.agg (fcells f)), dV (.int .i64 s), dV (.agg (acells .u64 2 (wantSet f (sawQ n g s) 100))), dV (.agg (acells .u64 2 (opC .andNot (ins f t) (wantSet f (sawQ n g s) 100)))), dV (.agg (acells .u64 2 (fun _ => 0))), dV (.bool (!true))]) (fun w' => Mem w w' [⟨w.heap.size, #[.slice (some ⟨b, 0, none⟩) n c], 33⟩, ⟨w.heap.size + 1, fcells f, 31⟩, ⟨w.heap.size + 1 + 1, #[.int .i64 s], 2⟩, ⟨w.heap.size + 1 + 1 + 1, acells .u64 2 t, 43⟩, ⟨w.heap.size + 1 + 1 + 1 + 1, #[.int .i64 1], 2⟩]) (by kernel_rfl) (by kernel_rfl) grows_mem
    (stays_DL (fun d hd => by
      simp only [List.mem_cons, List.mem_nil_iff, or_false] at hd
      rcases hd with rfl | rfl | rfl | rfl | rfl | rfl | rfl | rfl | rfl | rfl <;> exact stay_V)) M.drew ?_
  refine rel_load 31 _ rfl (w.heap.size + 1) 0 rfl (fcells f) _ rfl rfl (fun w' hw' => (hw'.at 1 rfl).whole) Tryd.underlying31 rfl (by rw [fcells_size]; exact sizeFd) (fun _ => ?_)
  simp only [Act.put, List.setIfInBounds_toArray, List.set_cons_zero, List.set_cons_succ]
  refine rel_load 43 _ rfl (w.heap.size + 1 + 1 + 1) 0 rfl (acells .u64 2 t) _ rfl rfl (fun w' hw' => (hw'.at 3 rfl).whole) Tryd.underlying43 rfl (by rw [acells_size]; exact sizeC) (fun _ => ?_)
  simp only [Act.put, List.setIfInBounds_toArray, List.set_cons_zero, List.set_cons_succ]
  refine rel_call (.agg (acells .u64 2 (wantSet f (fun k => hasC t (k : Int)) 100))) 40 #[.agg (fcells f), .agg (acells .u64 2 t)] rfl rfl rfl rfl (enters_of Tryd.func40 (by kernel_rfl) rfl) (fun w' _ => inField_any f hokf t w') (fun _ => ?_)
  simp only [Act.put, List.setIfInBounds_toArray, List.set_cons_zero, List.set_cons_succ]
  refine rel_cell 33 _ rfl w.heap.size 0 rfl (.slice (some ⟨b, 0, none⟩) n c) rfl rfl (fun w' c => load_slB _ _ _ _ _ _ rfl w' c) (fun w' hw' => (hw'.at 0 rfl).cell (i := 0) rfl) (fun _ => ?_)
  simp only [Act.put, List.setIfInBounds_toArray, List.set_cons_zero, List.set_cons_succ]
  refine rel_load 31 _ rfl (w.heap.size + 1) 0 rfl (fcells f) _ rfl rfl (fun w' hw' => (hw'.at 1 rfl).whole) Tryd.underlying31 rfl (by rw [fcells_size]; exact sizeFd) (fun _ => ?_)
  simp only [Act.put, List.setIfInBounds_toArray, List.set_cons_zero, List.set_cons_succ]
  refine rel_cell 2 _ rfl (w.heap.size + 1 + 1) 0 rfl (.int .i64 s) rfl rfl (fun w' c => load_n64 _ _ _ w' c) (fun w' hw' => (hw'.at 2 rfl).cell (i := 0) rfl) (fun _ => ?_)
  simp only [Act.put, List.setIfInBounds_toArray, List.set_cons_zero, List.set_cons_succ]
  refine rel_call (.agg (acells .u64 2 (wantSet f (sawQ n g s) 100))) 41 #[.slice (some ⟨b, 0, none⟩) n c, .agg (fcells f), .int .i64 s] rfl rfl rfl rfl (enters_of Tryd.func41 (by kernel_rfl) rfl) (fun w' hw' => seenBy_any f hf hokf n n1 n2 g HG.out s hs b c w' (HI.out.later hw'.below)) (fun _ => ?_)
  simp only [Act.put, List.setIfInBounds_toArray, List.set_cons_zero, List.set_cons_succ]
  refine rel_call (.agg (acells .u64 2 (opC .andNot (ins f t) (wantSet f (sawQ n g s) 100)))) 39 #[.agg (acells .u64 2 (wantSet f (fun k => hasC t (k : Int)) 100)), .agg (acells .u64 2 (wantSet f (sawQ n g s) 100))] rfl rfl rfl rfl (enters_of Tryd.func39 (by kernel_rfl) rfl) (fun w' _ => implWithoutOf (ins f t) (wantSet f (sawQ n g s) 100) w') (fun _ => ?_)
  simp only [Act.put, List.setIfInBounds_toArray, List.set_cons_zero, List.set_cons_succ]
  refine rel_val (.agg (acells .u64 2 (fun _ => 0))) rfl rfl (fun _ _ => by kernel_rfl) (fun _ => ?_)
  simp only [Act.put, List.setIfInBounds_toArray, List.set_cons_zero, List.set_cons_succ]
  refine rel_neq 43 _ _ _ rfl (acells .u64 2 (opC .andNot (ins f t) (wantSet f (sawQ n g s) 100))) (acells .u64 2 (fun _ => 0)) rfl rfl true rfl rfl (by kernel_rfl) (fun w' => run_equalIn_cells _ _ (by rw [opC_cut]; exact (cutC_N100 (less_u64 (want_u64 _ _ _) (want_u64 _ _ _))).1) zero_u64 true HD.out w') (fun _ => ?_)
  simp only [Act.put, List.setIfInBounds_toArray, List.set_cons_zero, List.set_cons_succ]
  refine rel_nil (fun W2 inv => ?_)
  have M2 := inv.cls
  clear inv M
  have HE : Hid ((fun w' => w'.cell? ⟨w.heap.size, 0, none⟩ = some (.slice (some ⟨b, 0, none⟩) n c) ∧ w'.cell? ⟨w.heap.size + 1 + 1, 0, none⟩ = some (.int .i64 s) ∧ w'.cell? ⟨w.heap.size + 1 + 1 + 1 + 1, 0, none⟩ = some (.int .i64 1) ∧ InH w' b 0 n g) W2) := Lib.hid ⟨(M2.at 0 rfl).cell (i := 0) rfl, (M2.at 2 rfl).cell (i := 0) rfl, (M2.at 4 rfl).cell (i := 0) rfl, HI.out.later M2.below⟩
  go_wp2_with (first
    | (refine wpList_load_part rfl 31 _ rfl (w.heap.size + 1) 0 rfl (fcells f) _ (M2.at 1 rfl).whole Tryd.underlying31 rfl (by rw [fcells_size]; exact sizeFd) ?_)
    | (refine wpList_load_part rfl 43 _ rfl (w.heap.size + 1 + 1 + 1) 0 rfl (acells .u64 2 t) _ (M2.at 3 rfl).whole Tryd.underlying43 rfl (by rw [acells_size]; exact sizeC) ?_)
    | (go_at_call 43; refine (bestIn_some3 f hokf t 42 w.heap.size (w.heap.size + 1 + 1) (w.heap.size + 1 + 1 + 1 + 1) (gapV n g s) k hbest (fun w' => w'.cell? ⟨w.heap.size, 0, none⟩ = some (.slice (some ⟨b, 0, none⟩) n c) ∧ w'.cell? ⟨w.heap.size + 1 + 1, 0, none⟩ = some (.int .i64 s) ∧ w'.cell? ⟨w.heap.size + 1 + 1 + 1 + 1, 0, none⟩ = some (.int .i64 1) ∧ InH w' b 0 n g) (fun _ _ h hb => ⟨cell_later h.1 hb, cell_later h.2.1 hb, cell_later h.2.2.1 hb, h.2.2.2.later hb⟩) (fun j w' hj h => worst_closure n n1 n2 g HG.out s hs j (isCell_lt hj) b c _ _ _ w' h.2.2.2 h.1 h.2.1 h.2.2.1) (enters_of Tryd.func42 (by kernel_rfl) rfl) _ HE.out).mono ?_; rintro e W3 ⟨rfl, hb⟩; have M3 := M2.call hb; clear hb)
    | (go_at_call 42; refine (worst_closure n n1 n2 g HG.out s hs k hk b c _ _ _ _ (HI.out.later M3.below) ((M3.at 0 rfl).cell (i := 0) rfl) ((M3.at 2 rfl).cell (i := 0) rfl) ((M3.at 4 rfl).cell (i := 0) rfl)).mono ?_; rintro e W4 ⟨rfl, hb⟩; have M4 := M3.call hb; clear hb))
  go_ret3
  exact ⟨rfl, M4.below⟩
set_option maxRecDepth 100000 in
set_option maxHeartbeats 4000000 in
theorem implWorstGap (f : Fd) (hf : f.Wf) (n : Nat) (hn : n ≤ 2 ^ 40) (g : Nat → Int) (hg : WfH n g) (s : Int) (t : Nat → Int) (b c : Nat) (A : Nat → Addr) (w : World) (I : InH w b 0 n g) (S0 : Sents w A) :
    Calls Tryd.prog 15 #[.agg (fcells f), .slice (some ⟨b, 0, none⟩) n c, .int .i64 s, .agg (acells .u64 2 t)] w fun e w' => e = .returned (.tuple #[.int .i64 (wgCell f n g s t), .int .i64 (wgGap f n g s t), .int .i64 (wgCode f n g s t)]) ∧ Below w.heap.size w w' := by
  have S : Hid (Sents w A) := Lib.hid S0
  have HI := Lib.hid I
  clear S0 I
  have hif := isIfaceErr
  obtain ⟨c0, hc0⟩ : ∃ y, beatAsk f n g s true = y := ⟨_, rfl⟩
  have hcs := beatAsk_cases f n g s true
  have HC : Hid (beatAsk f n g s (allTo 0 (fun i => isCell f ((fun _ => 0) i))) = c0) := Lib.hid hc0
  rw [hc0] at hcs
  have ok0 : True := trivial
  have ok1 : True := trivial
  have ok2 : True := trivial
  have ok3 : True := trivial
  by_cases hz : c0 = 0
  · subst hz
    obtain ⟨h1, hs, _⟩ := beatAsk_0 hc0
    obtain ⟨hok, n1, n2⟩ := okB_iff h1
    have HG := Lib.hid (CellsG.of (okB_ok h1))
    have HW : Hid (wgCode f n g s t = if wgOk f n g s t then 0 else 6) := Lib.hid (by unfold wgCode; rw [hc0, if_pos rfl])
    clear h1 hc0 hcs
    have hnil : codeErr A 0 = .nilIface := rfl
    have hbc := best_cases (inSet f t) (gapV n g s) 100
    cases hal : wgAll f n g s t with
    | false =>
      have hcode : wgCode f n g s t = 6 := by rw [HW.out]; unfold wgOk; rw [hal]; rfl
      have hbad := wg_bad hcode (by decide)
      rw [hbad.1, hbad.2, hcode]
      clear hbad hcode hbc
      go_enter Tryd.func15, Tryd.ntmps15
      go_upto_region 1 with (fail)
      obtain ⟨W, hW, M⟩ := open2 w (fcells f) 31 (acells .u64 2 t) 43
      rw [hW]; clear hW
      go_wp2_with (first
        | (clear ok0; refine wpList_load_part rfl 31 _ rfl (w.heap.size) 0 rfl (fcells f) _ (M.at 0 rfl).whole Tryd.underlying31 rfl (by rw [fcells_size]; exact sizeFd) ?_)
        | (clear ok1; go_at_call 22; refine (checkWatching_any f hf n hn g hg s 0 (by omega) (fun _ => 0) (fun i hi => absurd hi (by omega)) b c none 0 A _ (HI.out.later M.below) (.inl rfl) (S.out.later M.below)).mono ?_; rintro e W2 ⟨rfl, hb⟩; rw [HC.out, hnil]; have M2 := M.call hb; clear hb)
        | (clear ok2; refine wpList_load_part rfl 31 _ rfl (w.heap.size) 0 rfl (fcells f) _ (M2.at 0 rfl).whole Tryd.underlying31 rfl (by rw [fcells_size]; exact sizeFd) ?_)
        | (refine wpList_load_part rfl 43 _ rfl (w.heap.size + 1) 0 rfl (acells .u64 2 t) _ (M2.at 1 rfl).whole Tryd.underlying43 rfl (by rw [acells_size]; exact sizeC) ?_)
        | (go_at_call 27; refine (worstOf_unseen f hf hok n n1 n2 g HG.out s hs t hal b c A _ (HI.out.later M2.below) (S.out.later M2.below)).mono ?_; rintro e W3 ⟨rfl, hb⟩; have M3 := M2.call hb; clear hb; have hv6 := (S.out.later M3.below).v6)
        | (go_at_call 23; refine (codeOf_err A 6 (by omega) (by omega) _ (S.out.later M3.below)).mono ?_; rintro e W4 ⟨rfl, rfl⟩))
      go_ret3
      exact ⟨rfl, M3.below⟩
    | true =>
      rcases hbc with hb1 | ⟨k, hb1, hk, _⟩
      · have hcode : wgCode f n g s t = 6 := by rw [HW.out]; unfold wgOk; rw [hal, show wgBest f n g s t 100 = -1 from hb1]; rfl
        have hbad := wg_bad hcode (by decide)
        rw [hbad.1, hbad.2, hcode]
        clear hbad hcode
        go_enter Tryd.func15, Tryd.ntmps15
        go_upto_region 1 with (fail)
        obtain ⟨W, hW, M⟩ := open2 w (fcells f) 31 (acells .u64 2 t) 43
        rw [hW]; clear hW
        go_wp2_with (first
          | (clear ok0; refine wpList_load_part rfl 31 _ rfl (w.heap.size) 0 rfl (fcells f) _ (M.at 0 rfl).whole Tryd.underlying31 rfl (by rw [fcells_size]; exact sizeFd) ?_)
          | (clear ok1; go_at_call 22; refine (checkWatching_any f hf n hn g hg s 0 (by omega) (fun _ => 0) (fun i hi => absurd hi (by omega)) b c none 0 A _ (HI.out.later M.below) (.inl rfl) (S.out.later M.below)).mono ?_; rintro e W2 ⟨rfl, hb⟩; rw [HC.out, hnil]; have M2 := M.call hb; clear hb)
          | (clear ok2; refine wpList_load_part rfl 31 _ rfl (w.heap.size) 0 rfl (fcells f) _ (M2.at 0 rfl).whole Tryd.underlying31 rfl (by rw [fcells_size]; exact sizeFd) ?_)
          | (refine wpList_load_part rfl 43 _ rfl (w.heap.size + 1) 0 rfl (acells .u64 2 t) _ (M2.at 1 rfl).whole Tryd.underlying43 rfl (by rw [acells_size]; exact sizeC) ?_)
          | (go_at_call 27; refine (worstOf_none f hf hok n n1 n2 g HG.out s hs t hal hb1 b c A _ (HI.out.later M2.below) (S.out.later M2.below)).mono ?_; rintro e W3 ⟨rfl, hb⟩; have M3 := M2.call hb; clear hb; have hv6 := (S.out.later M3.below).v6)
          | (go_at_call 23; refine (codeOf_err A 6 (by omega) (by omega) _ (S.out.later M3.below)).mono ?_; rintro e W4 ⟨rfl, rfl⟩))
        go_ret3
        exact ⟨rfl, M3.below⟩
      · have hcode : wgCode f n g s t = 0 := by rw [HW.out]; unfold wgOk; rw [hal, show wgBest f n g s t 100 = (k : Int) from hb1, decide_eq_true (by omega)]; rfl
        have hgood := wg_good hcode
        have hmo : wgMost f n g s t 100 = gapV n g s k := by unfold wgMost mostTo; rw [hb1, if_neg (by omega), Int.toNat_natCast]
        rw [hgood.1, hgood.2, hcode, hmo, show wgBest f n g s t 100 = (k : Int) from hb1]
        clear hgood hcode hmo
        go_enter Tryd.func15, Tryd.ntmps15
        go_upto_region 1 with (fail)
        obtain ⟨W, hW, M⟩ := open2 w (fcells f) 31 (acells .u64 2 t) 43
        rw [hW]; clear hW
        go_wp2_with (first
          | (clear ok0; refine wpList_load_part rfl 31 _ rfl (w.heap.size) 0 rfl (fcells f) _ (M.at 0 rfl).whole Tryd.underlying31 rfl (by rw [fcells_size]; exact sizeFd) ?_)
          | (clear ok1; go_at_call 22; refine (checkWatching_any f hf n hn g hg s 0 (by omega) (fun _ => 0) (fun i hi => absurd hi (by omega)) b c none 0 A _ (HI.out.later M.below) (.inl rfl) (S.out.later M.below)).mono ?_; rintro e W2 ⟨rfl, hb⟩; rw [HC.out, hnil]; have M2 := M.call hb; clear hb)
          | (clear ok2; refine wpList_load_part rfl 31 _ rfl (w.heap.size) 0 rfl (fcells f) _ (M2.at 0 rfl).whole Tryd.underlying31 rfl (by rw [fcells_size]; exact sizeFd) ?_)
          | (refine wpList_load_part rfl 43 _ rfl (w.heap.size + 1) 0 rfl (acells .u64 2 t) _ (M2.at 1 rfl).whole Tryd.underlying43 rfl (by rw [acells_size]; exact sizeC) ?_)
          | (go_at_call 27; refine (worstOf_good f hf hok n n1 n2 g HG.out s hs t hal k hk hb1 b c A _ (HI.out.later M2.below) (S.out.later M2.below)).mono ?_; rintro e W3 ⟨rfl, hb⟩; have M3 := M2.call hb; clear hb)
          | (go_at_call 23; refine (codeOf_nil A _ (S.out.later M3.below)).mono ?_; rintro e W4 ⟨rfl, rfl⟩))
        go_ret3
        exact ⟨rfl, M3.below⟩
  · have hcode : wgCode f n g s t = c0 := by unfold wgCode; rw [hc0, if_neg hz]
    have hbad := wg_bad hcode hz
    rw [hbad.1, hbad.2, hcode]
    have hce : codeErr A c0 = errVal (A c0.toNat) := by unfold codeErr; rw [if_neg hz]
    obtain ⟨q, hq1, hq2, rfl⟩ : ∃ q : Nat, 1 ≤ q ∧ q ≤ 2 ∧ c0 = (q : Int) := ⟨c0.toNat, by omega, by omega, by omega⟩
    rw [Int.toNat_natCast] at hce
    clear hc0 hcs hz hbad hcode
    rcases (show q = 1 ∨ q = 2 by omega) with rfl | rfl
    · go_enter Tryd.func15, Tryd.ntmps15
      go_upto_region 1 with (fail)
      obtain ⟨W, hW, M⟩ := open2 w (fcells f) 31 (acells .u64 2 t) 43
      rw [hW]; clear hW
      go_wp2_with (first
        | (refine wpList_load_part rfl 31 _ rfl (w.heap.size) 0 rfl (fcells f) _ (M.at 0 rfl).whole Tryd.underlying31 rfl (by rw [fcells_size]; exact sizeFd) ?_)
        | (clear ok1; go_at_call 22; refine (checkWatching_any f hf n hn g hg s 0 (by omega) (fun _ => 0) (fun i hi => absurd hi (by omega)) b c none 0 A _ (HI.out.later M.below) (.inl rfl) (S.out.later M.below)).mono ?_; rintro e W2 ⟨rfl, hb⟩; rw [HC.out, hce]; have M2 := M.call hb; clear hb; have v2 := (S.out.later M2.below).v1)
        | (go_at_call 23; refine (codeOf_err A 1 (by omega) (by omega) _ (S.out.later M2.below)).mono ?_; rintro e W3 ⟨rfl, rfl⟩))
      go_ret3
      exact ⟨rfl, M2.below⟩
    · go_enter Tryd.func15, Tryd.ntmps15
      go_upto_region 1 with (fail)
      obtain ⟨W, hW, M⟩ := open2 w (fcells f) 31 (acells .u64 2 t) 43
      rw [hW]; clear hW
      go_wp2_with (first
        | (refine wpList_load_part rfl 31 _ rfl (w.heap.size) 0 rfl (fcells f) _ (M.at 0 rfl).whole Tryd.underlying31 rfl (by rw [fcells_size]; exact sizeFd) ?_)
        | (clear ok1; go_at_call 22; refine (checkWatching_any f hf n hn g hg s 0 (by omega) (fun _ => 0) (fun i hi => absurd hi (by omega)) b c none 0 A _ (HI.out.later M.below) (.inl rfl) (S.out.later M.below)).mono ?_; rintro e W2 ⟨rfl, hb⟩; rw [HC.out, hce]; have M2 := M.call hb; clear hb; have v2 := (S.out.later M2.below).v2)
        | (go_at_call 23; refine (codeOf_err A 2 (by omega) (by omega) _ (S.out.later M2.below)).mono ?_; rintro e W3 ⟨rfl, rfl⟩))
      go_ret3
      exact ⟨rfl, M2.below⟩
end
end Go.Proofs.YtfchbdbfokpcdaaDoor
