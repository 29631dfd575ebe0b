/-
  DiaryOf: what it answers; the model's.
-/
import Derived.Test.YtddbpbibjiahgaaDoorRowsL
import Derived.Test.YtddbpbibjiahgaaDoorRowB
import Derived.Test.YtddbpbibjiahgaaDoorLstE
import Derived.Test.YtddbpbibjiahgaaDoorCoreC
import Derived.Test.YtddbpbibjiahgaaDoorCoreB
import Derived.Test.YtddbpbibjiahgaaDoorCoreA
import Derived.DeepKeys
import Derived.KernelRfl
namespace Go.Proofs.YtddbpbibjiahgaaDoor
open Go Go.RowKit Go.Shelf
attribute [local go_sem] Oper.semAt_some

/-- The entry of a cell whose seeds were a and are b. -/
def diaR (a b : Int) (k : Nat) : Nat → Int := fun j => if j = 0 then (if a < b then 0 else 1) else if j = 1 then (k : Int) else (if a < b then b - a else a - b)
def diasR (f g : Fd) : Nat → List (Nat → Int)
  | 0 => []
  | n + 1 => if f.S n = g.S n then diasR f g n else diasR f g n ++ [diaR (f.S n) (g.S n) n]
theorem diasR_no {f g : Fd} {n : Nat} (h : f.S n = g.S n) : diasR f g (n + 1) = diasR f g n := by rw [diasR, if_pos h]
theorem diasR_yes {f g : Fd} {n : Nat} (h : ¬ f.S n = g.S n) : diasR f g (n + 1) = diasR f g n ++ [diaR (f.S n) (g.S n) n] := by rw [diasR, if_neg h]
theorem diasR_le (f g : Fd) : ∀ n, (diasR f g n).length ≤ n
  | 0 => Nat.le_refl _
  | n + 1 => by
    have := diasR_le f g n
    unfold diasR; split
    · omega
    · simp; omega
theorem okF_seedsD {f : Fd} (h : okF f = true) {i : Nat} (hi : i < 100) : 0 ≤ f.S i ∧ f.S i ≤ 1000 := by
  simp only [okF, Bool.and_eq_true] at h
  have := allTo_iff.1 h.2 i hi
  simp only [cellOk, Bool.and_eq_true] at this
  exact inB_iff.1 this.1.1.2
/-- The same sizes and kinds. -/
def sameD (f g : Fd) : Bool := f.W == g.W && f.H == g.H && rowEq 100 f.K g.K
def dyCode (f g : Fd) : Int := if okF f && okF g then (if sameD f g then 0 else 4) else 1
def dyN (f g : Fd) : Nat := if dyCode f g = 0 then (diasR f g 100).length else 0
theorem dyN_le (f g : Fd) : dyN f g ≤ 2 ^ 40 := by
  have := diasR_le f g 100
  unfold dyN; split <;> omega
def DyP (f g : Fd) (w : World) (e : Ending) (w' : World) : Prop :=
  ∃ p c', e = .returned (.tuple #[.slice p (dyN f g) c', .int .i64 (dyCode f g)]) ∧ SV ksEntry w.heap.size w'.heap.size w' p (dyN f g) (rowsF (diasR f g 100)) ∧ SW ksEntry 70 w.heap.size w'.heap.size w' p (dyN f g) ∧ Below w.heap.size w w'
theorem dyP_bad {f g : Fd} {w w' : World} {c0 : Int} (hc : dyCode f g = c0) (hne : c0 ≠ 0) (p : Option Addr) (c : Nat) (hb : Below w.heap.size w w') : DyP f g w (.returned (.tuple #[.slice p 0 c, .int .i64 c0])) w' := by
  have hN : dyN f g = 0 := by unfold dyN; rw [hc, if_neg hne]
  exact ⟨p, c, by rw [hN, hc], .inl hN, .inl hN, hb⟩
theorem dyP_ok {f g : Fd} {w w' : World} {v : Value} {R : List (Nat → Int)} (hc : dyCode f g = 0) (hR : diasR f g 100 = R) (lo : Nat) (hlo : w.heap.size ≤ lo) (ho : w'.ownsRow lo 70 3 v R.length (scells ksEntry R.length (rowsF R)).toList) (hb : Below w.heap.size w w') : DyP f g w (.returned (.tuple #[v, .int .i64 0])) w' := by
  have hN : dyN f g = R.length := by unfold dyN; rw [hc, if_pos rfl, hR]
  obtain ⟨p, c, rfl, h⟩ := Sown (ks := ksEntry) ho
  have h' := h.weak hlo
  exact ⟨p, c, by rw [hN, hc], by rw [hN, hR]; exact h'.inS, by rw [hN]; exact h'.sw, hb⟩
theorem Einfo' : (Tryd.prog.info? 70).map (fun i => (i.zero, i.size, i.bytes)) = some (some (.agg #[.int .i8 0, .int .i16 0, .int .i16 0]), 3, 6) := by kernel_rfl
theorem run_equalIn_kindsD (f g : Nat → Int) (hf : ∀ i, i < 100 → 0 ≤ f i ∧ f i ≤ 255) (hg : ∀ i, i < 100 → 0 ≤ g i ∧ g i ≤ 255) (w : World) : (Op.equalIn 10000 23 (.agg (acells .u8 100 f)) (.agg (acells .u8 100 g))).run Tryd.prog w = .ok (rowEq 100 f g) w := by
  have hk : Tryd.prog.keyTypeAt 5 23 = true := by kernel_rfl
  have fm : ∀ f, (Value.agg (acells .u8 100 f)).formed Tryd.prog 23 = true := fun f => by
    simp only [Value.formed, Tryd.underlying23, acells_size]; kernel_rfl
  obtain ⟨r, hr, hiff⟩ := run_equalIn_deep 9995 5 23 hk w _ _ (.agg (acells .u8 100 f)) (.agg (acells .u8 100 g)) _ _ (fm f) (fm g)
    (keyLits_ints 0 Tryd.underlying23 Tryd.underlying5 (by kernel_rfl) (by kernel_rfl) f (fun i hi => lit_u8 (hf i hi))) (keyLits_ints 0 Tryd.underlying23 Tryd.underlying5 (by kernel_rfl) (by kernel_rfl) g (fun i hi => lit_u8 (hg i hi)))
  have e : r = rowEq 100 f g := by
    rw [Bool.eq_iff_iff, rowEq_iff (k := .u8), hiff]
    constructor
    · intro h
      have h2 : (List.range 100).map (fun i => Value.int .u8 (f i)) = (List.range 100).map (fun i => Value.int .u8 (g i)) := by
        have := congrArg (List.map Lit.toCell) h
        simpa [List.map_map, Function.comp_def, Lit.toCell] using this
      exact congrArg List.toArray h2
    · intro h
      exact List.map_congr_left (fun i hi => by rw [acells_inj h i (List.mem_range.1 hi)])
  subst e
  exact hr
theorem run_neq_aggD {P : Program} (t : TypeId) (xs ys : Array Value) (r : Bool) (w : World) (x y : Operand) (hm : P.eqGuardType P.depth t = false) (hr : (Op.equalIn 10000 t (.agg xs) (.agg ys)).run P w = .ok r w) :
    (do eqGuard .neq t x y (.agg xs) (.agg ys); binOp .neq t (.agg xs) (.agg ys) : Sem Value).run P w = .ok (.bool (!r)) w := by
  rw [Sem.run_bind, run_eqGuard_agg w .neq t x y xs ys hm, Result.andThen_ok, run_neq_struct w t xs ys, hr]
  rfl
/-- A guarded comparison of two rows. -/
theorem wpList_neq_wanted {P : Program} {ops : Array Oper} {rest : List Oper} {op : Oper} {a : Act} {w : World} {Q : Exit → Act → World → Prop} (hw : Region.wanted op (yielded ops a.tmps) = true) (t t' : TypeId) (x y : Operand) (ho : op.op = .binOp .neq t x y t')
    (xs ys : Array Value) (hx : a.eval x = .agg xs) (hy : a.eval y = .agg ys) (hm : P.eqGuardType P.depth t = false) (r : Bool) (hr : (Op.equalIn 10000 t (.agg xs) (.agg ys)).run P w = .ok r w)
    (h : wpList P ops Q rest (a.put op.dst (.bool (!r))) w) : wpList P ops Q (op :: rest) a w :=
  wpList_step fun K hK => by
    rw [if_pos hw]
    have e : (execOp a.eval op).run P w = .ok (.value (.bool (!r))) w := by
      unfold execOp
      simp only [ho, hx, hy]
      rw [Sem.run_bind, run_neq_aggD t xs ys r w x y hm hr, Result.andThen_ok, Sem.run_pure]
    unfold Oper.wp
    rw [e]
    exact hK _ _ h
set_option maxRecDepth 100000 in
set_option maxHeartbeats 8000000 in
theorem specDiaryOf (f g : Fd) (hf : f.Wf) (hg : g.Wf) (w : World) : Calls Tryd.prog 13 #[.agg (fcells f), .agg (fcells g)] w (DyP f g w) := by
  have ok1 : True := trivial
  have ok2 : True := trivial
  cases h1 : okF f with
  | false =>
    have HC : Hid (dyCode f g = 1) := Lib.hid (by unfold dyCode; rw [h1]; rfl)
    have H1 := Lib.hid h1
    clear h1
    go_enter Tryd.func13, Tryd.ntmps13
    go_upto_region 1 with (fail)
    obtain ⟨W, hW, M⟩ := open2 w (fcells f) 31 (fcells g) 31
    rw [hW]; clear hW
    go_wp2_with (clear ok1; go_at_call 26; refine (l01Ok_any f hf w.heap.size _ ((M.alloc #[] 70).at 0 rfl)).mono ?_; rintro e w9 ⟨rfl, rfl⟩; rw [H1.out])
    go_ret2
    exact dyP_bad HC.out (by decide) _ _ (M.alloc #[] 70).below
  | true =>
  have H1 := Lib.hid h1
  cases h2 : okF g with
  | false =>
    have HC : Hid (dyCode f g = 1) := Lib.hid (by unfold dyCode; rw [h1, h2]; rfl)
    have H2 := Lib.hid h2
    clear h1 h2
    go_enter Tryd.func13, Tryd.ntmps13
    go_upto_region 1 with (fail)
    obtain ⟨W, hW, M⟩ := open2 w (fcells f) 31 (fcells g) 31
    rw [hW]; clear hW
    go_wp2_with (first
      | (clear ok1; go_at_call 26; refine (l01Ok_any f hf w.heap.size _ ((M.alloc #[] 70).at 0 rfl)).mono ?_; rintro e w9 ⟨rfl, rfl⟩; rw [H1.out])
      | (clear ok2; go_at_call 26; refine (l01Ok_any g hg (w.heap.size + 1) _ ((M.alloc #[] 70).at 1 rfl)).mono ?_; rintro e w9 ⟨rfl, rfl⟩; rw [H2.out]))
    go_ret2
    exact dyP_bad HC.out (by decide) _ _ (M.alloc #[] 70).below
  | true =>
  have H2 := Lib.hid h2
  by_cases hW0 : f.W = g.W
  case neg =>
    have HC : Hid (dyCode f g = 4) := Lib.hid (by unfold dyCode; rw [h1, h2]; simp [sameD, hW0])
    have hWn : (f.W != g.W) = true := by simpa using hW0
    clear h1 h2
    go_enter Tryd.func13, Tryd.ntmps13
    go_upto_region 1 with (fail)
    obtain ⟨W, hW, M⟩ := open2 w (fcells f) 31 (fcells g) 31
    rw [hW]; clear hW
    have a0 := ((M.alloc #[] 70).at 0 rfl).cell (fcells_0 f)
    have a1 := ((M.alloc #[] 70).at 0 rfl).cell (fcells_1 f)
    have b0 := ((M.alloc #[] 70).at 1 rfl).cell (fcells_0 g)
    have b1 := ((M.alloc #[] 70).at 1 rfl).cell (fcells_1 g)
    go_wp2_with (first
      | (clear ok1; go_at_call 26; refine (l01Ok_any f hf w.heap.size _ ((M.alloc #[] 70).at 0 rfl)).mono ?_; rintro e w9 ⟨rfl, rfl⟩; rw [H1.out])
      | (clear ok2; go_at_call 26; refine (l01Ok_any g hg (w.heap.size + 1) _ ((M.alloc #[] 70).at 1 rfl)).mono ?_; rintro e w9 ⟨rfl, rfl⟩; rw [H2.out]))
    go_ret2
    exact dyP_bad HC.out (by decide) _ _ (M.alloc #[] 70).below
  by_cases hH0 : f.H = g.H
  case neg =>
    have HC : Hid (dyCode f g = 4) := Lib.hid (by unfold dyCode; rw [h1, h2]; simp [sameD, hH0])
    have hHn : (f.H != g.H) = true := by simpa using hH0
    have hWn : (f.W != g.W) = false := by simpa using hW0
    clear h1 h2
    go_enter Tryd.func13, Tryd.ntmps13
    go_upto_region 1 with (fail)
    obtain ⟨W, hW, M⟩ := open2 w (fcells f) 31 (fcells g) 31
    rw [hW]; clear hW
    have a0 := ((M.alloc #[] 70).at 0 rfl).cell (fcells_0 f)
    have a1 := ((M.alloc #[] 70).at 0 rfl).cell (fcells_1 f)
    have b0 := ((M.alloc #[] 70).at 1 rfl).cell (fcells_0 g)
    have b1 := ((M.alloc #[] 70).at 1 rfl).cell (fcells_1 g)
    go_wp2_with (first
      | (clear ok1; go_at_call 26; refine (l01Ok_any f hf w.heap.size _ ((M.alloc #[] 70).at 0 rfl)).mono ?_; rintro e w9 ⟨rfl, rfl⟩; rw [H1.out])
      | (clear ok2; go_at_call 26; refine (l01Ok_any g hg (w.heap.size + 1) _ ((M.alloc #[] 70).at 1 rfl)).mono ?_; rintro e w9 ⟨rfl, rfl⟩; rw [H2.out]))
    go_ret2
    exact dyP_bad HC.out (by decide) _ _ (M.alloc #[] 70).below
  have hHn : (f.H != g.H) = false := by simpa using hH0
  have hWn : (f.W != g.W) = false := by simpa using hW0
  cases hK : rowEq 100 f.K g.K with
  | false =>
    have HC : Hid (dyCode f g = 4) := Lib.hid (by unfold dyCode; rw [h1, h2]; simp [sameD, hK])
    have HK := Lib.hid hK
    clear h1 h2 hK
    go_enter Tryd.func13, Tryd.ntmps13
    go_upto_region 1 with (fail)
    obtain ⟨W, hW, M⟩ := open2 w (fcells f) 31 (fcells g) 31
    rw [hW]; clear hW
    have a0 := ((M.alloc #[] 70).at 0 rfl).cell (fcells_0 f)
    have a1 := ((M.alloc #[] 70).at 0 rfl).cell (fcells_1 f)
    have b0 := ((M.alloc #[] 70).at 1 rfl).cell (fcells_0 g)
    have b1 := ((M.alloc #[] 70).at 1 rfl).cell (fcells_1 g)
    have ok3 : True := trivial
    have ok4 : True := trivial
    go_wp2_with (first
      | (clear ok1; go_at_call 26; refine (l01Ok_any f hf w.heap.size _ ((M.alloc #[] 70).at 0 rfl)).mono ?_; rintro e w9 ⟨rfl, rfl⟩; rw [H1.out])
      | (clear ok2; go_at_call 26; refine (l01Ok_any g hg (w.heap.size + 1) _ ((M.alloc #[] 70).at 1 rfl)).mono ?_; rintro e w9 ⟨rfl, rfl⟩; rw [H2.out])
      | (clear ok3; refine wpList_load_wanted rfl 23 _ rfl w.heap.size 2 rfl (acells .u8 100 f.K) _ ((M.alloc #[] 70).at 0 rfl).kinds Tryd.underlying23 rfl (by rw [acells_size]; exact sizeK) ?_)
      | (clear ok4; refine wpList_load_wanted rfl 23 _ rfl (w.heap.size + 1) 2 rfl (acells .u8 100 g.K) _ ((M.alloc #[] 70).at 1 rfl).kinds Tryd.underlying23 rfl (by rw [acells_size]; exact sizeK) ?_)
      | (refine wpList_neq_wanted rfl 23 _ _ _ rfl (acells .u8 100 f.K) (acells .u8 100 g.K) rfl rfl (by kernel_rfl) (rowEq 100 f.K g.K) (run_equalIn_kindsD f.K g.K hf.K hg.K _) ?_; rw [HK.out]))
    go_ret2
    exact dyP_bad HC.out (by decide) _ _ (M.alloc #[] 70).below
  | true =>
    have HC : Hid (dyCode f g = 0) := Lib.hid (by unfold dyCode; rw [h1, h2]; simp [sameD, hW0, hH0, hK])
    have HK := Lib.hid hK
    have HSf := Lib.hid (fun (i : Nat) (hi : i < 100) => okF_seedsD h1 hi)
    have HSg := Lib.hid (fun (i : Nat) (hi : i < 100) => okF_seedsD h2 hi)
    obtain ⟨i0, hi, hz0, hz1, hz2⟩ := info_parts Einfo'
    clear h1 h2 hK
    go_enter Tryd.func13, Tryd.ntmps13
    go_upto_region 1 with (fail)
    obtain ⟨W, hW, M⟩ := open2 w (fcells f) 31 (fcells g) 31
    rw [hW]; clear hW
    have a0 := ((M.alloc #[] 70).at 0 rfl).cell (fcells_0 f)
    have a1 := ((M.alloc #[] 70).at 0 rfl).cell (fcells_1 f)
    have b0 := ((M.alloc #[] 70).at 1 rfl).cell (fcells_0 g)
    have b1 := ((M.alloc #[] 70).at 1 rfl).cell (fcells_1 g)
    have hs0 := M.below.size
    have ok3 : True := trivial
    have ok4 : True := trivial
    go_wp2_with (first
      | (clear ok1; go_at_call 26; refine (l01Ok_any f hf w.heap.size _ ((M.alloc #[] 70).at 0 rfl)).mono ?_; rintro e w9 ⟨rfl, rfl⟩; rw [H1.out])
      | (clear ok2; go_at_call 26; refine (l01Ok_any g hg (w.heap.size + 1) _ ((M.alloc #[] 70).at 1 rfl)).mono ?_; rintro e w9 ⟨rfl, rfl⟩; rw [H2.out])
      | (clear ok3; refine wpList_load_wanted rfl 23 _ rfl w.heap.size 2 rfl (acells .u8 100 f.K) _ ((M.alloc #[] 70).at 0 rfl).kinds Tryd.underlying23 rfl (by rw [acells_size]; exact sizeK) ?_)
      | (clear ok4; refine wpList_load_wanted rfl 23 _ rfl (w.heap.size + 1) 2 rfl (acells .u8 100 g.K) _ ((M.alloc #[] 70).at 1 rfl).kinds Tryd.underlying23 rfl (by rw [acells_size]; exact sizeK) ?_)
      | (refine wpList_neq_wanted rfl 23 _ _ _ rfl (acells .u8 100 f.K) (acells .u8 100 g.K) rfl rfl (by kernel_rfl) (rowEq 100 f.K g.K) (run_equalIn_kindsD f.K g.K hf.K hg.K _) ?_; rw [HK.out]))
    clear a0 a1 b0 b1
    have HR0 : Hid ((W.alloc (.cells #[] 70)).ownsRow W.heap.size 70 3 (.slice (some ⟨W.heap.size, 0, none⟩) 0 0) 0 []) := Lib.hid (World.ownsRow_made W #[] 0 (Nat.le_refl _) (Nat.zero_le _) (by simp))
    have C0 := Lib.hid ((Below.refl W.heap.size W).alloc (Nat.le_refl _) (.cells #[] 70))
    have HBf := Lib.hid (M.at 0 rfl)
    have HBg := Lib.hid (M.at 1 rfl)
    have HM := Lib.hid M.below
    clear M
    go_loopw [6, 7] (fun v i wr => ∃ q : Nat, q ≤ 100 ∧ i = .int .i64 q ∧ Hid (wr.ownsRow W.heap.size 70 3 v (diasR f g q).length (scells ksEntry (diasR f g q).length (rowsF (diasR f g q))).toList) ∧ Hid (Below W.heap.size W wr)) (fun _ i _ => 100 - (intOf i).toNat)
    case atStart => exact ⟨0, by omega, rfl, HR0, C0⟩
    case round =>
      clear HR0 C0
      obtain ⟨q, hq, rfl, hO, hB2⟩ := hrel
      by_cases hlt : q < 100
      · have hlen := diasR_le f g q
        have cf := (HBf.out.later hB2.out).cell (fcells_S f q hlt)
        have cg := (HBg.out.later hB2.out).cell (fcells_S g q hlt)
        have hq1 : (q : Int) < 100 := by omega
        obtain ⟨s1, s2⟩ := HSf.out q hlt
        obtain ⟨t1, t2⟩ := HSg.out q hlt
        obtain ⟨a, ha⟩ : ∃ a, f.S q = a := ⟨_, rfl⟩
        obtain ⟨b, hb⟩ : ∃ b, g.S q = b := ⟨_, rfl⟩
        have hsub : IntKind.i16.wrap (b - a) = b - a := IntWalk.i16_in _ (by omega)
        have hwq : IntKind.i16.wrap (q : Int) = q := IntWalk.i16_in _ (by omega)
        rw [ha] at s1 s2 cf
        rw [hb] at t1 t2 cg
        have hbs := hB2.out.size
        rcases Int.lt_trichotomy a b with hab | hab | hab
        · have e : Hid (diasR f g (q + 1) = diasR f g q ++ [diaR a b q]) := Lib.hid (by rw [diasR_yes (by rw [ha, hb]; omega), ha, hb])
          have hrc : Hid (rcells ksEntry (diaR a b q) = [.int .i8 0, .int .i16 (q : Int), .int .i16 (b - a)]) := Lib.hid (by unfold rcells diaR; simp [List.range_succ, hab])
          clear ha hb
          obtain ⟨R, hR⟩ : ∃ R, diasR f g q = R := ⟨_, rfl⟩
          rw [hR] at hO e hlen
          clear hR
          go_upto_region 9 with (fail)
          go_quiet (fail)
          go_wp2_with (at_builtin; refine wpList_append_own _ rfl _ _ 36 rfl W.heap.size 70 i0 (.agg #[.int .i8 0, .int .i16 0, .int .i16 0]) 3 6 Tryd.underlying36 hi hz0 hz1 hz2 rfl (by decide) _ _ _ rfl (hO.out.alloc _) ⟨wr.heap.size, 0, none⟩ 1 1 [.int .i8 0, .int .i16 (q : Int), .int .i16 (b - a)] rfl rfl ?c1 ?c2 ?c3 ?c4 ?c5 ?_)
          case c1 => exact row_new (wr.drewN nq) [.int .i8 0, .int .i16 (q : Int), .int .i16 (b - a)] 70
          case c2 => intro u hu; simp at hu; rcases hu with rfl | rfl | rfl <;> rfl
          case c3 => unfold maxLen; omega
          case c4 => omega
          case c5 => simp; omega
          intro v2 w2 ho2 hg2 _
          have C2 := Lib.hid (below_own ((below_drewN nq hB2.out).alloc (by simp; omega) (.cells #[.int .i8 0, .int .i16 (q : Int), .int .i16 (b - a)] 70)) (by simp; omega) ((show (wr.drewN nq).ownsRow _ _ _ _ _ _ from hO.out).alloc _) hg2)
          have O2 : Hid (w2.ownsRow W.heap.size 70 3 v2 (diasR f g (q + 1)).length (scells ksEntry (diasR f g (q + 1)).length (rowsF (diasR f g (q + 1)))).toList) := Lib.hid (by rw [e.out, scells_snoc, hrc.out, List.length_append]; exact ho2)
          clear ho2 hg2
          go_wp2_with fail
          go_roundw
          case rel => exact ⟨q + 1, by omega, by go_num, O2, C2⟩
          case measure => simp [intOf]; omega
        · have e : Hid (diasR f g (q + 1) = diasR f g q) := Lib.hid (diasR_no (by rw [ha, hb]; exact hab))
          clear ha hb
          subst hab
          go_upto_region 9 with (fail)
          go_quiet (fail)
          go_wp2_with fail
          go_roundw
          case rel => exact ⟨q + 1, by omega, by go_num, by rw [e.out]; exact hO, Lib.hid (below_drewN _ hB2.out)⟩
          case measure => simp [intOf]; omega
        · have e : Hid (diasR f g (q + 1) = diasR f g q ++ [diaR a b q]) := Lib.hid (by rw [diasR_yes (by rw [ha, hb]; omega), ha, hb])
          have hrc : Hid (rcells ksEntry (diaR a b q) = [.int .i8 1, .int .i16 (q : Int), .int .i16 (a - b)]) := Lib.hid (by unfold rcells diaR; simp [List.range_succ, show ¬ a < b by omega])
          have hng : IntKind.i16.wrap (-(b - a)) = a - b := by rw [show -(b - a) = a - b by omega]; exact IntWalk.i16_in _ (by omega)
          clear ha hb
          obtain ⟨R, hR⟩ : ∃ R, diasR f g q = R := ⟨_, rfl⟩
          rw [hR] at hO e hlen
          clear hR
          go_upto_region 9 with (fail)
          go_quiet (fail)
          go_wp2_with (at_builtin; refine wpList_append_own _ rfl _ _ 36 rfl W.heap.size 70 i0 (.agg #[.int .i8 0, .int .i16 0, .int .i16 0]) 3 6 Tryd.underlying36 hi hz0 hz1 hz2 rfl (by decide) _ _ _ rfl (hO.out.alloc _) ⟨wr.heap.size, 0, none⟩ 1 1 [.int .i8 1, .int .i16 (q : Int), .int .i16 (a - b)] rfl rfl ?d1 ?d2 ?d3 ?d4 ?d5 ?_)
          case d1 => exact row_new (wr.drewN nq) [.int .i8 1, .int .i16 (q : Int), .int .i16 (a - b)] 70
          case d2 => intro u hu; simp at hu; rcases hu with rfl | rfl | rfl <;> rfl
          case d3 => unfold maxLen; omega
          case d4 => omega
          case d5 => simp; omega
          intro v2 w2 ho2 hg2 _
          have C2 := Lib.hid (below_own ((below_drewN nq hB2.out).alloc (by simp; omega) (.cells #[.int .i8 1, .int .i16 (q : Int), .int .i16 (a - b)] 70)) (by simp; omega) ((show (wr.drewN nq).ownsRow _ _ _ _ _ _ from hO.out).alloc _) hg2)
          have O2 : Hid (w2.ownsRow W.heap.size 70 3 v2 (diasR f g (q + 1)).length (scells ksEntry (diasR f g (q + 1)).length (rowsF (diasR f g (q + 1)))).toList) := Lib.hid (by rw [e.out, scells_snoc, hrc.out, List.length_append]; exact ho2)
          clear ho2 hg2
          go_wp2_with fail
          go_roundw
          case rel => exact ⟨q + 1, by omega, by go_num, O2, C2⟩
          case measure => simp [intOf]; omega
      · obtain rfl : q = 100 := by omega
        obtain ⟨R, hR⟩ : ∃ R, diasR f g 100 = R := ⟨_, rfl⟩
        have HR := Lib.hid hR
        rw [hR] at hO
        clear hR
        go_wp2_with fail
        go_ret2
        exact dyP_ok HC.out HR.out W.heap.size hs0 hO.out (HM.out.trans (hB2.out.mono HM.out.size))
end Go.Proofs.YtddbpbibjiahgaaDoor
