/-
  For every two sets (two words each) the program's BothOf answers as the model's: no condition.
-/
import Derived.Test.YtbhmndokjjaffabSets2
import Derived.Test.YtbhmndokjjaffabOpen
import Derived.Test.YtbhmndokjjaffabDraw
import Derived.Test.YtbhmndokjjaffabRows
import Derived.ChangeOld
import Derived.Deep.Cut
import Derived.Sort.CutIn
namespace Go.Proofs.Ytbhmndokjjaffab.lawBothOf
open Go.ChangeShapes Go.WideShapes Go.ChangeAt Go.RowKit

theorem own : ownKnob Try.prog.godebug = none := by kernel_rfl
theorem laidOut : laidOutB Try.prog = true := by kernel_rfl

theorem toCells2 (x0 x1 : Int) (w : World) : Calls Try.prog 10 #[.agg #[.int .u64 x0, .int .u64 x1]] w fun e w' => e = .returned (.agg #[.int .u64 x0, .int .u64 x1]) ∧ Below w.heap.size w w' := toCells (fun i => if i = 0 then x0 else x1) w
theorem spec2 (x0 x1 y0 y1 : Int) (w : World) : Calls Try.prog 22 #[.agg #[.int .u64 x0, .int .u64 x1], .agg #[.int .u64 y0, .int .u64 y1]] w fun e w' => e = .returned (.agg #[.int .u64 (bits .and .u64 x0 y0), .int .u64 (bits .and .u64 (bits .and .u64 x1 y1) 68719476735)]) ∧ Below w.heap.size w w' := specBothOf (fun i => if i = 0 then x0 else x1) (fun i => if i = 0 then y0 else y1) w
theorem impl2 (x0 x1 y0 y1 : Int) (w : World) : Calls Try.prog 23 #[.agg #[.int .u64 x0, .int .u64 x1], .agg #[.int .u64 y0, .int .u64 y1]] w fun e w' => e = .returned (.agg #[.int .u64 (bits .and .u64 x0 y0), .int .u64 (bits .and .u64 (bits .and .u64 x1 y1) 68719476735)]) ∧ Below w.heap.size w w' := implBothOf (fun i => if i = 0 then x0 else x1) (fun i => if i = 0 then y0 else y1) w
theorem eq2 (x0 x1 : Int) (w : World) : Calls Try.prog 21 #[.agg #[.int .u64 x0, .int .u64 x1], .agg #[.int .u64 x0, .int .u64 x1]] w fun e w' => e = .returned (.bool true) ∧ Below w.heap.size w w' := eqCells (fun i => if i = 0 then x0 else x1) w

/-- The cells that the region reads, and the memory list. -/
theorem four {f g : Nat → Int} {w w' : World} {L : List Ent} {t : TypeId} (H : Mem w w' L) (h0 : L[0]? = some ⟨w.heap.size, acells .u64 2 f, t⟩) (h1 : L[1]? = some ⟨w.heap.size + 1, acells .u64 2 g, t⟩) :
    w'.cell? ⟨w.heap.size, 0, none⟩ = some (.int .u64 (f 0)) ∧ w'.cell? ⟨w.heap.size, 1, none⟩ = some (.int .u64 (f 1)) ∧ w'.cell? ⟨w.heap.size + 1, 0, none⟩ = some (.int .u64 (g 0)) ∧ w'.cell? ⟨w.heap.size + 1, 1, none⟩ = some (.int .u64 (g 1)) ∧ Mem w w' L :=
  ⟨(H.at 0 h0).cell (acells_get _ _ f 0 (by omega)), (H.at 0 h0).cell (acells_get _ _ f 1 (by omega)), (H.at 1 h1).cell (acells_get _ _ g 0 (by omega)), (H.at 1 h1).cell (acells_get _ _ g 1 (by omega)), H⟩
theorem mem5 {a b c d m : Prop} (h : a ∧ b ∧ c ∧ d ∧ m) : m := h.2.2.2.2

set_option maxRecDepth 100000 in
set_option maxHeartbeats 4000000 in
theorem walk (f : Nat → Int) (_ : ∀ i, i < 2 → (Lit.int .u64 (f i)).wf = true) (g : Nat → Int) (_ : ∀ i, i < 2 → (Lit.int .u64 (g i)).wf = true) (w : World) : Calls Try.prog 7 #[.agg (acells .u64 2 f), .agg (acells .u64 2 g)] w fun e w' => e = .returned (.bool true) ∧ Below w.heap.size w w' := by
  go_enter Try.func7, Try.ntmps7
  go_upto_region 1 with (fail)
  obtain ⟨W, hW, M⟩ := open2 w (acells .u64 2 f) 23 (acells .u64 2 g) 23
  rw [hW]; clear hW
  go_cut [5] from 7 (fun s5 wc => ∃ n, s5 = .pointer (some ⟨n, 0, none⟩) ∧ Mem w wc [⟨w.heap.size, acells .u64 2 f, 23⟩, ⟨w.heap.size + 1, acells .u64 2 g, 23⟩, ⟨n, #[.int .u64 (bits .and .u64 (f 0) (g 0)), .int .u64 (bits .and .u64 (bits .and .u64 (f 1) (g 1)) 68719476735)], 25⟩])
  case first =>
    have hF : Fresh w _ W.heap.size := M.fresh
    go_region_held3 (fun w' => w'.cell? ⟨w.heap.size, 0, none⟩ = some (.int .u64 (f 0)) ∧ w'.cell? ⟨w.heap.size, 1, none⟩ = some (.int .u64 (f 1)) ∧ w'.cell? ⟨w.heap.size + 1, 0, none⟩ = some (.int .u64 (g 0)) ∧ w'.cell? ⟨w.heap.size + 1, 1, none⟩ = some (.int .u64 (g 1)) ∧ Mem w w' [⟨w.heap.size, acells .u64 2 f, 23⟩, ⟨w.heap.size + 1, acells .u64 2 g, 23⟩])
      (first
        | exact four M.drew rfl rfl
        | exact four (Mem.call (mem5 (by assumption)) hb) rfl rfl
        | exact four (Mem.other (mem5 (by assumption)) _) rfl rfl
        | exact four (Mem.other hM.out _) rfl rfl
        | exact four (Mem.setOut2 (by assumption) (mem5 (by assumption))) rfl rfl)
      (first
        | (go_at_call 10; refine (toCells2 _ _ _).mono ?_; rintro e w1 ⟨rfl, hb⟩; have hM := Lib.hid (Mem.call (mem5 (by assumption)) hb); have hF := hM.out.fresh; (try have hN := Lib.hid (Mem.call hN.out hb)); (try have hN := Lib.hid (Mem.born (by assumption) (mem5 (by assumption)) hb)); (try have hN := Lib.hid (Mem.bornD (by assumption) (mem5 (by assumption)) hb)); (try have n3 := hN.out.two 2 rfl))
        | (go_at_call 22; refine (spec2 _ _ _ _ _).mono ?_; rintro e w3 ⟨rfl, hb⟩; have hM := Lib.hid (Mem.call (mem5 (by assumption)) hb); have hF := hM.out.fresh; (try have hN := Lib.hid (Mem.call hN.out hb)); (try have hN := Lib.hid (Mem.born (by assumption) (mem5 (by assumption)) hb)); (try have hN := Lib.hid (Mem.bornD (by assumption) (mem5 (by assumption)) hb)); (try have n3 := hN.out.two 2 rfl)))
    all_goals go_wp2_with (fail)
    all_goals go_meet
    all_goals (case rel => first
      | exact ⟨_, rfl, Mem.alloc hM.out _ _⟩
      | exact ⟨_, rfl, Mem.set (Mem.set hN.out 2 0 _ rfl _ rfl) 2 1 _ rfl _ rfl⟩)
  case rest =>
    obtain ⟨n, rfl, M⟩ := hcut
    go_upto_region 2 with (fail)
    go_cut [6] from 7 (fun s6 wx => ∃ m, s6 = .pointer (some ⟨m, 0, none⟩) ∧ Mem w wx [⟨w.heap.size, acells .u64 2 f, 23⟩, ⟨w.heap.size + 1, acells .u64 2 g, 23⟩, ⟨n, #[.int .u64 (bits .and .u64 (f 0) (g 0)), .int .u64 (bits .and .u64 (bits .and .u64 (f 1) (g 1)) 68719476735)], 25⟩, ⟨m, #[.int .u64 (bits .and .u64 (f 0) (g 0)), .int .u64 (bits .and .u64 (bits .and .u64 (f 1) (g 1)) 68719476735)], 25⟩])
    case first =>
      have hF : Fresh w _ wc.heap.size := M.fresh
      go_region_held3 (fun w' => w'.cell? ⟨w.heap.size, 0, none⟩ = some (.int .u64 (f 0)) ∧ w'.cell? ⟨w.heap.size, 1, none⟩ = some (.int .u64 (f 1)) ∧ w'.cell? ⟨w.heap.size + 1, 0, none⟩ = some (.int .u64 (g 0)) ∧ w'.cell? ⟨w.heap.size + 1, 1, none⟩ = some (.int .u64 (g 1)) ∧ Mem w w' [⟨w.heap.size, acells .u64 2 f, 23⟩, ⟨w.heap.size + 1, acells .u64 2 g, 23⟩, ⟨n, #[.int .u64 (bits .and .u64 (f 0) (g 0)), .int .u64 (bits .and .u64 (bits .and .u64 (f 1) (g 1)) 68719476735)], 25⟩])
        (first
          | exact four M.drew rfl rfl
          | exact four (Mem.call (mem5 (by assumption)) hb) rfl rfl
          | exact four (Mem.other (mem5 (by assumption)) _) rfl rfl
          | exact four (Mem.other hM.out _) rfl rfl
          | exact four (Mem.setOut2 (by assumption) (mem5 (by assumption))) rfl rfl)
        (first
          | (go_at_call 10; refine (toCells2 _ _ _).mono ?_; rintro e w1 ⟨rfl, hb⟩; have hM := Lib.hid (Mem.call (mem5 (by assumption)) hb); have hF := hM.out.fresh; (try have hN := Lib.hid (Mem.call hN.out hb)); (try have hN := Lib.hid (Mem.born (by assumption) (mem5 (by assumption)) hb)); (try have hN := Lib.hid (Mem.bornD (by assumption) (mem5 (by assumption)) hb)); (try have n3 := hN.out.two 3 rfl))
          | (go_at_call 23; refine (impl2 _ _ _ _ _).mono ?_; rintro e w3 ⟨rfl, hb⟩; have hM := Lib.hid (Mem.call (mem5 (by assumption)) hb); have hF := hM.out.fresh; (try have hN := Lib.hid (Mem.call hN.out hb)); (try have hN := Lib.hid (Mem.born (by assumption) (mem5 (by assumption)) hb)); (try have hN := Lib.hid (Mem.bornD (by assumption) (mem5 (by assumption)) hb)); (try have n3 := hN.out.two 3 rfl)))
      all_goals go_wp2_with (fail)
      all_goals go_meet
      all_goals (case rel => first
        | exact ⟨_, rfl, Mem.alloc hM.out _ _⟩
        | exact ⟨_, rfl, Mem.set (Mem.set hN.out 3 0 _ rfl _ rfl) 3 1 _ rfl _ rfl⟩)
    case rest =>
      obtain ⟨m, rfl, M⟩ := hcut
      go_upto_region 3 with (fail)
      have k0 := (M.at 2 rfl).cell (i := 0) rfl
      have k1 := (M.at 2 rfl).cell (i := 1) rfl
      have k2 := (M.at 3 rfl).cell (i := 0) rfl
      have k3 := (M.at 3 rfl).cell (i := 1) rfl
      go_wp2_with (first
        | (go_at_call 21; refine (eq2 _ _ _).mono ?_; rintro e w1 ⟨rfl, hb⟩))
      all_goals exact bodyPost_ret (v := .bool true) (by simp [results, Try.results7, go_sem]) rfl ⟨rfl, (M.call hb).out⟩

set_option maxRecDepth 100000 in
theorem lifted (os : Os) (started : os.Started) (H : Type) (enc : TypeId × Value → H) :
    ReturnsInHanded {} Try.checked os 7 .any (Rows.fnExactBothOfSpec.pre6 enc Try.prog Try.f7 Rows.fnExactBothOfRow.domain false) (Rows.fnExactBothOfSpec.post enc Try.prog Try.f7 false true false false) := by
  refine returnsInHanded_of_change (C := Try.checked) own started (by kernel_rfl) Try.func7
    (ChangeSpec.witness6 (enc := enc) (C := Try.checked) false ⟨#[], #[.agg (acells .u64 2 (fun _ => 0)), .agg (acells .u64 2 (fun _ => 0))], []⟩ 8 (by kernel_rfl) (by kernel_rfl) (by kernel_rfl) (by kernel_rfl)) ?_
  intro W base args ds gs before hval0 hW hcnd _
  have hval : ∀ (j : Nat) t v, Try.f7.params[j]? = some t → args[j]? = some v → Value.okWide Try.prog W .any base t v := hval0
  have hW' := hW
  obtain ⟨p, q, hA0, hV, rfl, hfz, hnd⟩ := hW
  have hA : DataW.TrodAll enc Try.prog W 0 (fun _ => true) true Try.f7.params.toList args.toList ds p := hA0
  rw [Try.params7] at hA hval
  obtain ⟨v0, vs0, d0, ds0, p0, q0, hargs, rfl, rfl, h0, r0⟩ := trodAll_cons hA
  obtain ⟨v1, vs1, d1, ds1, p1, q1, rfl, rfl, rfl, h1, r1⟩ := trodAll_cons r0
  obtain ⟨rfl, rfl, rfl⟩ := trodAll_nil r1
  obtain rfl : args = #[v0, v1] := by cases args; simp_all
  obtain ⟨rfl, rfl⟩ := trodVars_none hV
  have k0 := h0
  have lt0 : ∀ x ∈ p0, x.block < W.heap.size := by obtain ⟨m, hm⟩ := k0; exact DataW.trod_lt m _ _ _ hm
  have k1 := h1
  have lt1 : ∀ x ∈ p1, x.block < W.heap.size := by obtain ⟨m, hm⟩ := k1; exact DataW.trod_lt m _ _ _ hm
  obtain ⟨f0, rfl, hf0⟩ := open_row (q := .u64) Try.underlying23 Try.underlying22 (by kernel_rfl) (by kernel_rfl) (hval 0 23 v0 rfl rfl) h0
  obtain ⟨f1, rfl, hf1⟩ := open_row (q := .u64) Try.underlying23 Try.underlying22 (by kernel_rfl) (by kernel_rfl) (hval 1 23 v1 rfl rfl) h1
  clear hA0 hval0
  refine (walk f0 hf0 f1 hf1 W).mono fun e W' ⟨he, bel⟩ => ?_
  subst he
  exact ⟨_, rfl, _, _, _, [], _, [], hW', trodAll_mk1 (shut_bool Try.underlying4 _), (trodAll_cons_mk (Below.trod laidOut (by kernel_rfl) (of_decide_eq_true (by kernel_rfl)) k0 bel lt0) (trodAll_cons_mk (Below.trod laidOut (by kernel_rfl) (of_decide_eq_true (by kernel_rfl)) k1 bel lt1) trodAll_mk0)), rfl, bel.frame _, fun h => by cases h⟩

theorem over : Rows.fnExactBothOfRow.holds Try.pinned (OpenSpec.ofChange Rows.fnExactBothOfSpec) :=
  OpenClaim.holds_of_wide 7 Try.f7 rfl rfl rfl rfl rfl rfl rfl ⟨rfl, rfl, rfl, rfl, rfl⟩ rfl rfl rfl rfl rfl (by kernel_rfl) Try.func7 (by kernel_rfl)
    (of_decide_eq_true (by kernel_rfl)) (by unfold Func.isWrapper; first | (rw [if_pos (by decide +kernel)]; kernel_rfl) | (rw [if_neg (by decide +kernel)]; exact ⟨rfl, rfl⟩))
    (fun os started H enc _ => lifted os started H enc)

theorem proved : Rows.FnExactBothOfSaid := over
#print axioms proved

end Go.Proofs.Ytbhmndokjjaffab.lawBothOf
