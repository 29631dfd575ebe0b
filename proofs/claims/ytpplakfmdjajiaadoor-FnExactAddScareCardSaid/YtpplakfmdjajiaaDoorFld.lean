/-
  A field as two sizes and two functions; its 202 cells; reading and writing them; the zero values of this seat's row types.
-/
import Derived.Test.YtpplakfmdjajiaaDoorBase
namespace Go.Proofs.YtpplakfmdjajiaaDoor
open Go Go.RowKit

/-- The data of a field: its sizes, and for each number the kind and the seeds. -/
structure Fd where
  W : Int
  H : Int
  K : Nat → Int
  S : Nat → Int

def fcell (f : Fd) (i : Nat) : Value := if i = 0 then .int .i8 f.W else if i = 1 then .int .i8 f.H else if i < 102 then .int .u8 (f.K (i - 2)) else .int .i16 (f.S (i - 102))
def fcells (f : Fd) : Array Value := ((List.range 202).map (fcell f)).toArray
theorem fcells_size (f : Fd) : (fcells f).size = 202 := by simp [fcells]
theorem fcells_get (f : Fd) (i : Nat) (h : i < 202) : (fcells f)[i]? = some (fcell f i) := by simp [fcells, h]
theorem fcells_0 (f : Fd) : (fcells f)[0]? = some (.int .i8 f.W) := fcells_get f 0 (by omega)
theorem fcells_1 (f : Fd) : (fcells f)[1]? = some (.int .i8 f.H) := fcells_get f 1 (by omega)
theorem fcells_K (f : Fd) (i : Nat) (h : i < 100) : (fcells f)[2 + i]? = some (.int .u8 (f.K i)) := by
  rw [fcells_get f _ (by omega)]; unfold fcell
  rw [if_neg (by omega), if_neg (by omega), if_pos (by omega)]; congr 3; omega
theorem fcells_S (f : Fd) (i : Nat) (h : i < 100) : (fcells f)[102 + i]? = some (.int .i16 (f.S i)) := by
  rw [fcells_get f _ (by omega)]; unfold fcell
  rw [if_neg (by omega), if_neg (by omega), if_neg (by omega)]; congr 3; omega
theorem fcells_ext {f : Fd} {cs : Array Value} (hs : cs.size = 202) (h0 : cs[0]? = some (.int .i8 f.W)) (h1 : cs[1]? = some (.int .i8 f.H))
    (hK : ∀ i, i < 100 → cs[2 + i]? = some (.int .u8 (f.K i))) (hS : ∀ i, i < 100 → cs[102 + i]? = some (.int .i16 (f.S i))) : cs = fcells f := by
  apply Array.ext_getElem?
  intro j
  by_cases hj : j < 202
  · by_cases e0 : j = 0
    · subst e0; rw [h0, fcells_0]
    · by_cases e1 : j = 1
      · subst e1; rw [h1, fcells_1]
      · by_cases e2 : j < 102
        · obtain ⟨i, rfl⟩ : ∃ i, j = 2 + i := ⟨j - 2, by omega⟩
          rw [hK i (by omega), fcells_K f i (by omega)]
        · obtain ⟨i, rfl⟩ : ∃ i, j = 102 + i := ⟨j - 102, by omega⟩
          rw [hS i (by omega), fcells_S f i (by omega)]
  · rw [Array.getElem?_eq_none (by omega), Array.getElem?_eq_none (by rw [fcells_size]; omega)]
theorem fcells_one (f : Fd) : (fcells f).all (·.oneCell') = true := by
  rw [Array.all_eq_true_iff_forall_mem]; intro v hv; simp [fcells] at hv; obtain ⟨i, _, rfl⟩ := hv
  unfold fcell; repeat' split
  all_goals rfl
theorem fcells_congr {f g : Fd} (h0 : f.W = g.W) (h1 : f.H = g.H) (hK : ∀ i, i < 100 → f.K i = g.K i) (hS : ∀ i, i < 100 → f.S i = g.S i) : fcells f = fcells g :=
  fcells_ext (fcells_size f) (by rw [fcells_0, h0]) (by rw [fcells_1, h1]) (fun i hi => by rw [fcells_K f i hi, hK i hi]) (fun i hi => by rw [fcells_S f i hi, hS i hi])
theorem fcells_inj {f g : Fd} (h : fcells f = fcells g) : f.W = g.W ∧ f.H = g.H ∧ (∀ i, i < 100 → f.K i = g.K i) ∧ (∀ i, i < 100 → f.S i = g.S i) := by
  refine ⟨?_, ?_, fun i hi => ?_, fun i hi => ?_⟩
  · have := congrArg (fun a => a[0]?) h; simp only [fcells_0] at this; simpa using this
  · have := congrArg (fun a => a[1]?) h; simp only [fcells_1] at this; simpa using this
  · have := congrArg (fun a => a[2 + i]?) h; simp only [fcells_K _ i hi] at this; simpa using this
  · have := congrArg (fun a => a[102 + i]?) h; simp only [fcells_S _ i hi] at this; simpa using this

def Fd.setW (f : Fd) (v : Int) : Fd := { f with W := v }
def Fd.setH (f : Fd) (v : Int) : Fd := { f with H := v }
def Fd.setK (f : Fd) (i : Nat) (v : Int) : Fd := { f with K := fun j => if j = i then v else f.K j }
def Fd.setS (f : Fd) (i : Nat) (v : Int) : Fd := { f with S := fun j => if j = i then v else f.S j }
theorem fcells_setW (f : Fd) (v : Int) : (fcells f).setIfInBounds 0 (.int .i8 v) = fcells (f.setW v) := by
  refine fcells_ext (by simp [fcells_size]) ?_ ?_ (fun i hi => ?_) (fun i hi => ?_)
  · rw [Array.getElem?_setIfInBounds, if_pos rfl, if_pos (by rw [fcells_size]; omega)]; rfl
  · rw [Array.getElem?_setIfInBounds, if_neg (by omega), fcells_1]; rfl
  · rw [Array.getElem?_setIfInBounds, if_neg (by omega), fcells_K f i hi]; rfl
  · rw [Array.getElem?_setIfInBounds, if_neg (by omega), fcells_S f i hi]; rfl
theorem fcells_setH (f : Fd) (v : Int) : (fcells f).setIfInBounds 1 (.int .i8 v) = fcells (f.setH v) := by
  refine fcells_ext (by simp [fcells_size]) ?_ ?_ (fun i hi => ?_) (fun i hi => ?_)
  · rw [Array.getElem?_setIfInBounds, if_neg (by omega), fcells_0]; rfl
  · rw [Array.getElem?_setIfInBounds, if_pos rfl, if_pos (by rw [fcells_size]; omega)]; rfl
  · rw [Array.getElem?_setIfInBounds, if_neg (by omega), fcells_K f i hi]; rfl
  · rw [Array.getElem?_setIfInBounds, if_neg (by omega), fcells_S f i hi]; rfl
theorem fcells_setK (f : Fd) (k : Nat) (v : Int) (hk : k < 100) : (fcells f).setIfInBounds (2 + k) (.int .u8 v) = fcells (f.setK k v) := by
  refine fcells_ext (by simp [fcells_size]) ?_ ?_ (fun i hi => ?_) (fun i hi => ?_)
  · rw [Array.getElem?_setIfInBounds, if_neg (by omega), fcells_0]; rfl
  · rw [Array.getElem?_setIfInBounds, if_neg (by omega), fcells_1]; rfl
  · rw [Array.getElem?_setIfInBounds, fcells_K f i hi, fcells_size]; show _ = some (Value.int .u8 (if i = k then v else f.K i))
    by_cases e : i = k
    · subst e; rw [if_pos rfl, if_pos (by omega), if_pos rfl]
    · rw [if_neg (by omega), if_neg e]
  · rw [Array.getElem?_setIfInBounds, if_neg (by omega), fcells_S f i hi]; rfl
theorem fcells_setS (f : Fd) (k : Nat) (v : Int) (hk : k < 100) : (fcells f).setIfInBounds (102 + k) (.int .i16 v) = fcells (f.setS k v) := by
  refine fcells_ext (by simp [fcells_size]) ?_ ?_ (fun i hi => ?_) (fun i hi => ?_)
  · rw [Array.getElem?_setIfInBounds, if_neg (by omega), fcells_0]; rfl
  · rw [Array.getElem?_setIfInBounds, if_neg (by omega), fcells_1]; rfl
  · rw [Array.getElem?_setIfInBounds, if_neg (by omega), fcells_K f i hi]; rfl
  · rw [Array.getElem?_setIfInBounds, fcells_S f i hi, fcells_size]; show _ = some (Value.int .i16 (if i = k then v else f.S i))
    by_cases e : i = k
    · subst e; rw [if_pos rfl, if_pos (by omega), if_pos rfl]
    · rw [if_neg (by omega), if_neg e]

/-- The kinds, the seeds, as a part of the cells. -/
theorem Blk.kinds {w : World} {b : Nat} {f : Fd} {t : TypeId} (h : Blk w b (fcells f) t) : w.rangeAt b 2 (acells .u8 100 f.K).toList :=
  h.range 2 (fun j hj => by rw [acells_size] at hj; rw [fcells_K f j hj, acells_get _ _ _ _ hj])
theorem Blk.seeds {w : World} {b : Nat} {f : Fd} {t : TypeId} (h : Blk w b (fcells f) t) : w.rangeAt b 102 (acells .i16 100 f.S).toList :=
  h.range 102 (fun j hj => by rw [acells_size] at hj; rw [fcells_S f j hj, acells_get _ _ _ _ hj])
theorem Blk.setKinds {w : World} {b : Nat} {f : Fd} {t : TypeId} (h : Blk w b (fcells f) t) (g : Nat → Int) : Blk (w.setCells b 2 (acells .u8 100 g).toList) b (fcells { f with K := g }) t := by
  obtain ⟨cs', h1, h2, h3⟩ := Blk.cells (acells .u8 100 g).toList (fcells f) 2 w h
  have e : cs' = fcells { f with K := g } := by
    rw [fcells_size] at h2
    refine fcells_ext h2 ?_ ?_ (fun i hi => ?_) (fun i hi => ?_)
    · rw [h3, if_neg (by omega), fcells_0]
    · rw [h3, if_neg (by omega), fcells_1]
    · rw [h3, if_pos (by simp [acells_size, fcells_size]; omega), show 2 + i - 2 = i by omega, Array.getElem?_toList, acells_get _ _ _ _ hi]
    · rw [h3, if_neg (by simp [acells_size]; omega), fcells_S f i hi]
  rw [← e]; exact h1
theorem Blk.setSeeds {w : World} {b : Nat} {f : Fd} {t : TypeId} (h : Blk w b (fcells f) t) (g : Nat → Int) : Blk (w.setCells b 102 (acells .i16 100 g).toList) b (fcells { f with S := g }) t := by
  obtain ⟨cs', h1, h2, h3⟩ := Blk.cells (acells .i16 100 g).toList (fcells f) 102 w h
  have e : cs' = fcells { f with S := g } := by
    rw [fcells_size] at h2
    refine fcells_ext h2 ?_ ?_ (fun i hi => ?_) (fun i hi => ?_)
    · rw [h3, if_neg (by omega), fcells_0]
    · rw [h3, if_neg (by omega), fcells_1]
    · rw [h3, if_neg (by omega), fcells_K f i hi]
    · rw [h3, if_pos (by simp [acells_size, fcells_size]; omega), show 102 + i - 102 = i by omega, Array.getElem?_toList, acells_get _ _ _ _ hi]
  rw [← e]; exact h1

/-- Each number of a field fits its kind. -/
structure Fd.Wf (f : Fd) : Prop where
  W : -128 ≤ f.W ∧ f.W ≤ 127
  H : -128 ≤ f.H ∧ f.H ≤ 127
  K : ∀ i, i < 100 → 0 ≤ f.K i ∧ f.K i ≤ 255
  S : ∀ i, i < 100 → -32768 ≤ f.S i ∧ f.S i ≤ 32767
theorem lit_i8 {n : Int} (h : -128 ≤ n ∧ n ≤ 127) : (Lit.int .i8 n).wf = true := WalkArith.wf_i8 h
theorem lit_u8 {n : Int} (h : 0 ≤ n ∧ n ≤ 255) : (Lit.int .u8 n).wf = true := WalkArith.wf_u8 h
theorem lit_i16 {n : Int} (h : -32768 ≤ n ∧ n ≤ 32767) : (Lit.int .i16 n).wf = true := WalkArith.wf_i16 h

/-- The field that is zero everywhere. -/
def Fd.zero : Fd := ⟨0, 0, fun _ => 0, fun _ => 0⟩
theorem zero_run {P : Program} {t : TypeId} {v : Value} (h : (P.info? t).map (fun i => i.zero) = some (some v)) (w : World) : (zeroValue t).run P w = .ok v w := by
  cases hq : P.info? t with
  | none => simp [hq] at h
  | some i => simp [hq] at h; simp [zeroValue, typeInfo, hq, h]
theorem zeroFd : Tryd.zeroCells32 = fcells Fd.zero := by kernel_rfl
theorem zeroK : Tryd.zeroCells23 = acells .u8 100 (fun _ => 0) := by kernel_rfl
theorem zeroS : Tryd.zeroCells25 = acells .i16 100 (fun _ => 0) := by kernel_rfl
theorem zrunF (w : World) : (zeroValue 32).run Tryd.prog w = .ok (.agg Tryd.zeroCells32) w := zero_run (by kernel_rfl) w
theorem zrunK (w : World) : (zeroValue 23).run Tryd.prog w = .ok (.agg Tryd.zeroCells23) w := zero_run (by kernel_rfl) w
theorem zrunS (w : World) : (zeroValue 25).run Tryd.prog w = .ok (.agg Tryd.zeroCells25) w := zero_run (by kernel_rfl) w
theorem sizeFd : (Tryd.prog.info? 32).map (·.size) = some 202 := by kernel_rfl
theorem sizeK : (Tryd.prog.info? 23).map (·.size) = some 100 := by kernel_rfl
theorem sizeS : (Tryd.prog.info? 25).map (·.size) = some 100 := by kernel_rfl
theorem sizeFl : (Tryd.prog.info? 27).map (·.size) = some 202 := by kernel_rfl
end Go.Proofs.YtpplakfmdjajiaaDoor
