/-
  The laws' helpers on flocks.
  Lists of flocks compared: the model's way, the program's.
  The model's validity of flocks.
  The program's validity of flocks: parts, hasText, fits; the table that it looks up.
  ValidFlocks: the model's, the program's.
  The laws' comparisons and marks on flocks.
  An argument that is a slice of structs of integers: what it is, and the laws' copies of it.
-/
import Derived.Test.YtaioflkonpommaaDoorCoreB
import Derived.Test.YtaioflkonpommaaDoorCoreA
import Derived.Outline
import Derived.Deep.DeepCutAuto
import Derived.Laws.MakeOwn
import Derived.OwnWalk
import Derived.RangeFuncNested
import Derived.OpenShut
import Derived.Shelf.Abstract
import Derived.Deep.Slices
namespace Go.Proofs.YtaioflkonpommaaDoor
section
open Go Go.RowKit

abbrev ksFlock : List IntKind := [.i16, .i16, .i16, .i16, .i16, .i8]
/-- A flock's value. -/
abbrev vFlock (a : Nat → Int) : Value := .agg #[.int .i16 (a 0), .int .i16 (a 1), .int .i16 (a 2), .int .i16 (a 3), .int .i16 (a 4), .int .i8 (a 5)]
theorem vFlock_eq (F : Nat → Nat → Int) (i : Nat) : Value.agg (srow ksFlock F i) = vFlock (F i) := rfl
theorem toFlock_any (a : Nat → Int) (w : World) : Calls Tryd.prog 12 #[vFlock a] w fun e w' => e = .returned (vFlock a) ∧ Below w.heap.size w w' := by
  go_enter Tryd.func12, Tryd.ntmps12
  go_wp2_with fail
  exact bodyPost_ret (v := vFlock a) (by simp [results, Tryd.results12, go_sem]) rfl ⟨rfl, (((Below.refl _ _).alloc (Nat.le_refl _) _).alloc (by simp) _).alloc (by simp; omega) _⟩
theorem toFlock_row (F : Nat → Nat → Int) (i : Nat) (w : World) : Calls Tryd.prog 12 #[.agg (srow ksFlock F i)] w fun e w' => e = .returned (.agg (srow ksFlock F i)) ∧ Below w.heap.size w w' := toFlock_any (F i) w
set_option maxHeartbeats 1000000 in
theorem toFlockS_any (n : Nat) (hn : n ≤ 2 ^ 40) (F : Nat → Nat → Int) (b o c : Nat) (w : World) (I : InS w b o n ksFlock F) : Calls Tryd.prog 23 #[.slice (some ⟨b, o, none⟩) n c] w fun e w' => ∃ b', e = .returned (.slice (some ⟨b', 0, none⟩) n n) ∧ w.heap.size ≤ b' ∧ Blk w' b' (scells ksFlock n F) 38 ∧ Below w.heap.size w w' := by
  go_enter Tryd.func23, Tryd.ntmps23
  have HI := Lib.hid I
  clear I
  go_wp2_with (refine wpList_make (BY := 12) rfl 51 38 _ rfl n rfl ksFlock Tryd.underlying51 (by kernel_rfl) (by kernel_rfl) (by omega) (by omega) ?_)
  obtain ⟨W, hW, M⟩ := open1 w (scells ksFlock n (fun _ _ => 0)) 38
  rw [hW]; clear hW
  go_loopw [4] (fun i wr => ∃ k : Nat, k ≤ n ∧ i = .int .i64 k ∧ Mem w wr [⟨w.heap.size, scells ksFlock n (fun p => if p < k then F p else fun _ => 0), 38⟩]) (fun i _ => n - (intOf i).toNat)
  case atStart => exact ⟨0, by omega, rfl, by simpa using M⟩
  case round =>
    clear M
    obtain ⟨k, hk, rfl, M⟩ := hrel
    by_cases hlt : k < n
    · have hr := HI.out.elem (by decide) M.below hlt
      go_wp2_with (first
        | (refine wpList_load_part rfl 29 _ rfl _ _ rfl (srow ksFlock F k) _ hr Tryd.underlying29 rfl (by rw [srow_size]; kernel_rfl) ?_)
        | (go_at_call 12; refine (toFlock_row F k _).mono ?_; rintro e W2 ⟨rfl, hb⟩; have M2 := M.call hb; clear M hb hr; have hth := Lib.hid ((M2.at 0 rfl).elemThere hlt))
        | (refine wpList_store_mid rfl 38 _ _ rfl _ _ _ rfl rfl ?s1 ?s2 ?s3 ?_))
      case s1 => rw [srow_size]; exact hth.out
      case s2 => rw [srow_size]; kernel_rfl
      case s3 => exact srow_one _ _ _
      go_roundw
      case rel =>
        refine ⟨k + 1, by omega, by go_num, ?_⟩
        have h4 := M2.cells 0 (k * ksFlock.length) (srow ksFlock F k).toList rfl _ ((M2.at 0 rfl).setElem hlt)
        have e : scells ksFlock n (fun p => if p = k then F k else if p < k then F p else fun _ => 0) = scells ksFlock n (fun p => if p < k + 1 then F p else fun _ => 0) := scells_congr (fun p j hp _ => by
          by_cases e1 : p = k
          · subst e1; simp
          · by_cases e2 : p < k
            · rw [if_neg e1, if_pos e2, if_pos (by omega)]
            · rw [if_neg e1, if_neg e2, if_neg (by omega)])
        rw [e] at h4
        exact h4
      case measure => simp [intOf]; omega
    · have e : scells ksFlock n (fun p => if p < k then F p else fun _ => 0) = scells ksFlock n F := scells_congr (fun p j hp _ => by rw [if_pos (by omega)])
      rw [e] at M; clear e
      go_wp2_with fail
      go_ret
      exact ⟨_, rfl, Nat.le_refl _, M.at 0 rfl, M.below⟩
end
section
open Go Go.RowKit

def lseq (ks : List IntKind) (n : Nat) (F : Nat → Nat → Int) (m : Nat) (G : Nat → Nat → Int) : Bool := n == m && allTo n (fun i => seq ks.length (F i) (G i))
/-- Each number fits its kind. -/
def WfS (ks : List IntKind) (n : Nat) (F : Nat → Nat → Int) : Prop := ∀ i, i < n → ∀ j, j < ks.length → (Lit.int (ks.getD j .i64) (F i j)).wf = true

end
section
open Go Go.RowKit Go.WideShapes Go.ChangeShapes

/-- A flock's numbers, but for its tree, are as told. -/
def plainOk (a : Nat → Int) : Bool := inB (a 1) 0 200 && inB (a 2) 0 20 && inB (a 3) 0 1000 && inB (a 4) 0 200 && inB (a 5) 0 2
/-- A cell has a tree. -/
def treeAt (f : Fd) (c : Int) : Bool := isCell f c && f.K c.toNat == 3
def flockOk (f : Fd) (a : Nat → Int) : Bool := plainOk a && treeAt f (a 0)
def okFlocks (f : Fd) (n : Nat) (F : Nat → Nat → Int) : Bool := okF f && allTo n (fun i => flockOk f (F i)) && decide (n ≤ 12)
/-- Each number fits its kind. -/
structure WfR (a : Nat → Int) : Prop where
  b0 : -32768 ≤ a 0 ∧ a 0 ≤ 32767
  b1 : -32768 ≤ a 1 ∧ a 1 ≤ 32767
  b2 : -32768 ≤ a 2 ∧ a 2 ≤ 32767
  b3 : -32768 ≤ a 3 ∧ a 3 ≤ 32767
  b4 : -32768 ≤ a 4 ∧ a 4 ≤ 32767
  b5 : -128 ≤ a 5 ∧ a 5 ≤ 127
theorem WfS.row {n : Nat} {F : Nat → Nat → Int} (h : WfS ksFlock n F) {i : Nat} (hi : i < n) : WfR (F i) :=
  ⟨bounds_i16 (h i hi 0 (by decide)), bounds_i16 (h i hi 1 (by decide)), bounds_i16 (h i hi 2 (by decide)), bounds_i16 (h i hi 3 (by decide)), bounds_i16 (h i hi 4 (by decide)), bounds_i8 (h i hi 5 (by decide))⟩
/-- A flock's six cells. -/
structure FlkAt (w : World) (b o : Nat) (a : Nat → Int) : Prop where
  c0 : w.cell? ⟨b, o, none⟩ = some (.int .i16 (a 0))
  c1 : w.cell? ⟨b, o + 1, none⟩ = some (.int .i16 (a 1))
  c2 : w.cell? ⟨b, o + 2, none⟩ = some (.int .i16 (a 2))
  c3 : w.cell? ⟨b, o + 3, none⟩ = some (.int .i16 (a 3))
  c4 : w.cell? ⟨b, o + 4, none⟩ = some (.int .i16 (a 4))
  c5 : w.cell? ⟨b, o + 5, none⟩ = some (.int .i8 (a 5))
theorem flkAt_of {w : World} {b o : Nat} {F : Nat → Nat → Int} {i : Nat} (h : w.rangeAt b o (srow ksFlock F i).toList) : FlkAt w b o (F i) :=
  ⟨h 0 _ rfl, h 1 _ rfl, h 2 _ rfl, h 3 _ rfl, h 4 _ rfl, h 5 _ rfl⟩

set_option maxRecDepth 100000 in
set_option maxHeartbeats 2000000 in
theorem l02Plain_any (a : Nat → Int) (ha : WfR a) (b o : Nat) (w : World) (h : FlkAt w b o a) : Calls Tryd.prog 82 #[.pointer (some ⟨b, o, none⟩)] w fun e w' => e = .returned (.bool (plainOk a)) ∧ w = w' := by
  obtain ⟨c0, c1, c2, c3, c4, c5⟩ := h
  obtain ⟨⟨a01, a02⟩, ⟨a11, a12⟩, ⟨a21, a22⟩, ⟨a31, a32⟩, ⟨a41, a42⟩, ⟨a51, a52⟩⟩ := ha
  cases q1 : inB (a 1) 0 200 with
  | false =>
    have hr : plainOk a = false := by simp [plainOk, q1]
    rw [hr]; clear hr
    go_enter Tryd.func82, Tryd.ntmps82
    go_wp2_with (go_at_call 57; refine (l00In_any _ _ _ _).mono ?_; rintro e w' ⟨rfl, rfl⟩; first | rw [q1])
    go_ret
    exact ⟨rfl, rfl⟩
  | true =>
    cases q2 : inB (a 2) 0 20 with
    | false =>
      have hr : plainOk a = false := by simp [plainOk, q1, q2]
      rw [hr]; clear hr
      go_enter Tryd.func82, Tryd.ntmps82
      go_wp2_with (go_at_call 57; refine (l00In_any _ _ _ _).mono ?_; rintro e w' ⟨rfl, rfl⟩; first | rw [q1] | rw [q2])
      go_ret
      exact ⟨rfl, rfl⟩
    | true =>
      cases q3 : inB (a 3) 0 1000 with
      | false =>
        have hr : plainOk a = false := by simp [plainOk, q1, q2, q3]
        rw [hr]; clear hr
        go_enter Tryd.func82, Tryd.ntmps82
        go_wp2_with (go_at_call 57; refine (l00In_any _ _ _ _).mono ?_; rintro e w' ⟨rfl, rfl⟩; first | rw [q1] | rw [q2] | rw [q3])
        go_ret
        exact ⟨rfl, rfl⟩
      | true =>
        cases q4 : inB (a 4) 0 200 with
        | false =>
          have hr : plainOk a = false := by simp [plainOk, q1, q2, q3, q4]
          rw [hr]; clear hr
          go_enter Tryd.func82, Tryd.ntmps82
          go_wp2_with (go_at_call 57; refine (l00In_any _ _ _ _).mono ?_; rintro e w' ⟨rfl, rfl⟩; first | rw [q1] | rw [q2] | rw [q3] | rw [q4])
          go_ret
          exact ⟨rfl, rfl⟩
        | true =>
          cases q5 : inB (a 5) 0 2 with
          | false =>
            have hr : plainOk a = false := by simp [plainOk, q1, q2, q3, q4, q5]
            rw [hr]; clear hr
            go_enter Tryd.func82, Tryd.ntmps82
            go_wp2_with (go_at_call 57; refine (l00In_any _ _ _ _).mono ?_; rintro e w' ⟨rfl, rfl⟩; first | rw [q1] | rw [q2] | rw [q3] | rw [q4] | rw [q5])
            go_ret
            exact ⟨rfl, rfl⟩
          | true =>
            have hr : plainOk a = true := by simp [plainOk, q1, q2, q3, q4, q5]
            rw [hr]; clear hr
            go_enter Tryd.func82, Tryd.ntmps82
            go_wp2_with (go_at_call 57; refine (l00In_any _ _ _ _).mono ?_; rintro e w' ⟨rfl, rfl⟩; first | rw [q1] | rw [q2] | rw [q3] | rw [q4] | rw [q5])
            go_ret
            exact ⟨rfl, rfl⟩

set_option maxRecDepth 100000 in
theorem l02Tree_any (f : Fd) (hf : f.Wf) (c : Int) (b : Nat) (w : World) (B : Blk w b (fcells f) 30) : Calls Tryd.prog 83 #[.pointer (some ⟨b, 0, none⟩), .int .i64 c] w fun e w' => e = .returned (.bool (treeAt f c)) ∧ w = w' := by
  cases q : isCell f c with
  | false =>
    have hr : treeAt f c = false := by simp [treeAt, q]
    rw [hr]; clear hr
    go_enter Tryd.func83, Tryd.ntmps83
    go_wp2_with (go_at_call 81; refine (l01Is_any f _ b _ hf.W hf.H B).mono ?_; rintro e w' ⟨rfl, rfl⟩; rw [q])
    go_ret
    exact ⟨rfl, rfl⟩
  | true =>
    have hb : 0 ≤ c ∧ c ≤ 99 := by
      simp only [isCell, Bool.and_eq_true, inB_iff] at q; exact q.1.1
    obtain ⟨k, rfl⟩ := Int.eq_ofNat_of_zero_le hb.1
    have hlt : k < 100 := by omega
    have cK := B.cell (fcells_K f k hlt)
    have hr : treeAt f (k : Int) = (f.K k == 3) := by simp [treeAt, q]
    rw [hr]; clear hr
    go_enter Tryd.func83, Tryd.ntmps83
    go_wp2_with (go_at_call 81; refine (l01Is_any f _ b _ hf.W hf.H B).mono ?_; rintro e w' ⟨rfl, rfl⟩; rw [q])
    go_ret
    exact ⟨rfl, rfl⟩

set_option maxRecDepth 100000 in
theorem l02Flock_any (f : Fd) (hf : f.Wf) (a : Nat → Int) (ha : WfR a) (b d o : Nat) (w : World) (B : Blk w b (fcells f) 30) (h : FlkAt w d o a) : Calls Tryd.prog 65 #[.pointer (some ⟨b, 0, none⟩), .pointer (some ⟨d, o, none⟩)] w fun e w' => e = .returned (.bool (flockOk f a)) ∧ w = w' := by
  have c0 := h.c0
  obtain ⟨a01, a02⟩ := ha.b0
  cases q : plainOk a with
  | false =>
    have hr : flockOk f a = false := by simp [flockOk, q]
    rw [hr]; clear hr
    go_enter Tryd.func65, Tryd.ntmps65
    go_wp2_with (go_at_call 82; refine (l02Plain_any a ha d o _ h).mono ?_; rintro e w' ⟨rfl, rfl⟩; rw [q])
    go_ret
    exact ⟨rfl, rfl⟩
  | true =>
    have hr : flockOk f a = treeAt f (a 0) := by simp [flockOk, q]
    rw [hr]; clear hr
    go_enter Tryd.func65, Tryd.ntmps65
    go_wp2_with (first | (go_at_call 82; refine (l02Plain_any a ha d o _ h).mono ?_; rintro e w' ⟨rfl, rfl⟩; rw [q]) | (go_at_call 83; refine (l02Tree_any f hf _ b _ B).mono ?_; rintro e w' ⟨rfl, rfl⟩))
    go_ret
    exact ⟨rfl, rfl⟩

set_option maxRecDepth 100000 in
set_option maxHeartbeats 1000000 in
theorem l02Ok_any (f : Fd) (hf : f.Wf) (n : Nat) (hn : n ≤ 2 ^ 40) (F : Nat → Nat → Int) (hF : WfS ksFlock n F) (b d c : Nat) (w : World) (B : Blk w b (fcells f) 30) (I : InS w d 0 n ksFlock F) :
    Calls Tryd.prog 59 #[.pointer (some ⟨b, 0, none⟩), .slice (some ⟨d, 0, none⟩) n c] w fun e w' => e = .returned (.bool (okFlocks f n F)) ∧ w = w' := by
  have HB := Lib.hid B
  have HI := Lib.hid I
  have HF := Lib.hid hF
  clear B I hF
  cases hok : okF f with
  | false =>
    have hr : okFlocks f n F = false := by simp [okFlocks, hok]
    rw [hr]; clear hr
    go_enter Tryd.func59, Tryd.ntmps59
    go_wp2_with (go_at_call 79; refine (l01Ok_any f hf b _ HB.out).mono ?_; rintro e w' ⟨rfl, rfl⟩; rw [hok])
    go_ret
    exact ⟨rfl, rfl⟩
  | true =>
    have hr : okFlocks f n F = (allTo n (fun i => flockOk f (F i)) && decide (n ≤ 12)) := by simp [okFlocks, hok]
    rw [hr]; clear hr
    go_enter Tryd.func59, Tryd.ntmps59
    go_wp2_with (go_at_call 79; refine (l01Ok_any f hf b _ HB.out).mono ?_; rintro e w' ⟨rfl, rfl⟩; rw [hok])
    go_loop [5] (fun i => ∃ k : Nat, k ≤ n ∧ i = .int .i64 k ∧ Hid (∀ i, i < k → flockOk f (F i) = true)) (fun i => n - (intOf i).toNat)
    case atStart => exact ⟨0, by omega, rfl, Lib.hid (fun i hi => by omega)⟩
    case round =>
      obtain ⟨k, hk, rfl, hall⟩ := hrel
      by_cases hlt : k < n
      · have hc : Hid (FlkAt w d (k * 6) (F k)) := Lib.hid (flkAt_of (by have h := HI.out k hlt; rw [Nat.zero_add] at h; exact h))
        have hr : Hid (WfR (F k)) := Lib.hid (HF.out.row hlt)
        cases q : flockOk f (F k) with
        | true =>
          go_wp2_with (go_at_call 65; refine (l02Flock_any f hf (F k) hr.out b d (k * 6) _ HB.out hc.out).mono ?_; rintro e w' ⟨rfl, rfl⟩; rw [q])
          go_round
          case rel => exact ⟨k + 1, by omega, by go_num, Lib.hid (upto_succ hall.out q)⟩
          case measure => simp [intOf]; omega
        | false =>
          have hx : Hid (allTo n (fun i => flockOk f (F i)) = false) := Lib.hid (allTo_false hlt q)
          go_wp2_with (go_at_call 65; refine (l02Flock_any f hf (F k) hr.out b d (k * 6) _ HB.out hc.out).mono ?_; rintro e w' ⟨rfl, rfl⟩; rw [q])
          go_ret
          exact ⟨by rw [hx.out]; rfl, rfl⟩
      · obtain rfl : k = n := by omega
        have hx : Hid (allTo k (fun i => flockOk f (F i)) = true) := Lib.hid (allTo_iff.2 hall.out)
        by_cases h12 : k ≤ 12
        · go_wp2_with fail
          go_ret
          exact ⟨by first | (rw [hx.out]; simp; omega) | (simp; omega), rfl⟩
        · go_wp2_with fail
          go_ret
          exact ⟨by first | (rw [hx.out]; simp; omega) | (simp; omega), rfl⟩
end
section
open Go Go.RowKit Go.WideShapes Go.ChangeShapes

/-- The table of the greatest numbers, as its variable holds it. -/
structure TabAt (w : World) : Prop where
  t0 : w.cell? ⟨8, 0, none⟩ = some (.int .i64 99)
  t1 : w.cell? ⟨8, 1, none⟩ = some (.int .i64 200)
  t2 : w.cell? ⟨8, 2, none⟩ = some (.int .i64 20)
  t3 : w.cell? ⟨8, 3, none⟩ = some (.int .i64 1000)
  t4 : w.cell? ⟨8, 4, none⟩ = some (.int .i64 200)
  t5 : w.cell? ⟨8, 5, none⟩ = some (.int .i64 2)
theorem cell_still {w w' : World} {a : Addr} {v : Value} (h : w.cell? a = some v) (hb : Below w.heap.size w w') : w'.cell? a = some v := by
  have hlt := World.block_lt_of_cell? _ _ h
  obtain ⟨b, o, s⟩ := a
  have hs : s = none := World.cell?_spot h
  subst hs
  rw [hb.cell hlt]; exact h
theorem TabAt.later {w w' : World} (h : TabAt w) (hb : Below w.heap.size w w') : TabAt w' :=
  ⟨cell_still h.t0 hb, cell_still h.t1 hb, cell_still h.t2 hb, cell_still h.t3 hb, cell_still h.t4 hb, cell_still h.t5 hb⟩
/-- A flock's numbers as whole words. -/
abbrev vParts (a : Nat → Int) : Value := .agg #[.int .i64 (a 0), .int .i64 (a 1), .int .i64 (a 2), .int .i64 (a 3), .int .i64 (a 4), .int .i64 (a 5)]
/-- All six numbers are as told. -/
def textOk (a : Nat → Int) : Bool := inB (a 0) 0 99 && plainOk a

theorem parts_any (a : Nat → Int) (ha : WfR a) (w : World) : Calls Tryd.prog 110 #[vFlock a] w fun e w' => e = .returned (vParts a) ∧ Below w.heap.size w w' := by
  obtain ⟨⟨a01, a02⟩, ⟨a11, a12⟩, ⟨a21, a22⟩, ⟨a31, a32⟩, ⟨a41, a42⟩, ⟨a51, a52⟩⟩ := ha
  go_enter Tryd.func110, Tryd.ntmps110
  go_wp2_with fail
  exact bodyPost_ret (v := vParts a) (by simp [results, Tryd.results110, go_sem]) rfl ⟨rfl, ((Below.refl _ _).alloc (Nat.le_refl _) _).alloc (by simp) _⟩

theorem idx0 (a : Nat → Int) (w : World) : (Instr.index 162 (vParts a) (.int .i64 0)).run Tryd.prog w = .ok (.int .i64 (a 0)) w := by kernel_rfl
theorem idx1 (a : Nat → Int) (w : World) : (Instr.index 162 (vParts a) (.int .i64 1)).run Tryd.prog w = .ok (.int .i64 (a 1)) w := by kernel_rfl
theorem idx2 (a : Nat → Int) (w : World) : (Instr.index 162 (vParts a) (.int .i64 2)).run Tryd.prog w = .ok (.int .i64 (a 2)) w := by kernel_rfl
theorem idx3 (a : Nat → Int) (w : World) : (Instr.index 162 (vParts a) (.int .i64 3)).run Tryd.prog w = .ok (.int .i64 (a 3)) w := by kernel_rfl
theorem idx4 (a : Nat → Int) (w : World) : (Instr.index 162 (vParts a) (.int .i64 4)).run Tryd.prog w = .ok (.int .i64 (a 4)) w := by kernel_rfl
theorem idx5 (a : Nat → Int) (w : World) : (Instr.index 162 (vParts a) (.int .i64 5)).run Tryd.prog w = .ok (.int .i64 (a 5)) w := by kernel_rfl
def most (i : Nat) : Int := [99, 200, 20, 1000, 200, 2].getD i 0
theorem textOk_iff {a : Nat → Int} : textOk a = true ↔ ∀ i, i < 6 → inB (a i) 0 (most i) = true := by
  simp only [textOk, plainOk, Bool.and_eq_true]
  constructor
  · rintro ⟨h0, ⟨⟨⟨h1, h2⟩, h3⟩, h4⟩, h5⟩ i hi
    have : i = 0 ∨ i = 1 ∨ i = 2 ∨ i = 3 ∨ i = 4 ∨ i = 5 := by omega
    rcases this with rfl | rfl | rfl | rfl | rfl | rfl <;> assumption
  · intro h
    exact ⟨h 0 (by omega), ⟨⟨⟨h 1 (by omega), h 2 (by omega)⟩, h 3 (by omega)⟩, h 4 (by omega)⟩, h 5 (by omega)⟩
theorem textOk_false {a : Nat → Int} {i : Nat} (hi : i < 6) (h : inB (a i) 0 (most i) = false) : textOk a = false := by
  cases e : textOk a with
  | false => rfl
  | true => rw [textOk_iff.1 e i hi] at h; exact absurd h (by simp)
set_option maxRecDepth 100000 in
set_option maxHeartbeats 2000000 in
theorem hasText_any (a : Nat → Int) (ha : WfR a) (w : World) (T : TabAt w) : Calls Tryd.prog 102 #[vFlock a] w fun e w' => e = .returned (.bool (textOk a)) ∧ Below w.heap.size w w' := by
  go_enter Tryd.func102, Tryd.ntmps102
  go_wp2_with (go_at_call 110; refine (parts_any a ha _).mono ?_; rintro e w1 ⟨rfl, hb⟩; have B1 : Below w.heap.size w w1 := Below.trans ((Below.refl _ _).alloc (Nat.le_refl _) _) (hb.mono (by simp)); clear hb)
  have T1 := Lib.hid (T.later B1)
  have HB1 := Lib.hid B1
  clear T B1
  go_loop [7] (fun i => ∃ k : Nat, k ≤ 6 ∧ i = .int .i64 k ∧ Hid (∀ i, i < k → inB (a i) 0 (most i) = true)) (fun i => 6 - (intOf i).toNat)
  case atStart => exact ⟨0, by omega, rfl, Lib.hid (fun i hi => by omega)⟩
  case round =>
    obtain ⟨k, hk, rfl, hall⟩ := hrel
    by_cases hlt : k < 6
    · have hx : k = 0 ∨ k = 1 ∨ k = 2 ∨ k = 3 ∨ k = 4 ∨ k = 5 := by omega
      rcases hx with rfl | rfl | rfl | rfl | rfl | rfl
      · obtain ⟨u1, u2⟩ := ha.b0
        have tj := T1.out.t0
        by_cases n1 : a 0 < 0
        · have hx : Hid (textOk a = false) := Lib.hid (textOk_false (i := 0) (by omega) (inB_false (Or.inl n1)))
          go_wp2_with (rw [idx0]; go_simp)
          go_ret
          exact ⟨by rw [hx.out]; rfl, HB1.out⟩
        · by_cases n2 : 99 < a 0
          · have hx : Hid (textOk a = false) := Lib.hid (textOk_false (i := 0) (by omega) (inB_false (Or.inr n2)))
            go_wp2_with (rw [idx0]; go_simp)
            go_ret
            exact ⟨by rw [hx.out]; rfl, HB1.out⟩
          · have hx : Hid (inB (a 0) 0 (most 0) = true) := Lib.hid (inB_iff.2 ⟨by omega, by show a 0 ≤ 99; omega⟩)
            go_wp2_with (rw [idx0]; go_simp)
            go_round
            case rel => exact ⟨1, by omega, by go_num, Lib.hid (upto_succ hall.out hx.out)⟩
            case measure => simp [intOf]
      · obtain ⟨u1, u2⟩ := ha.b1
        have tj := T1.out.t1
        by_cases n1 : a 1 < 0
        · have hx : Hid (textOk a = false) := Lib.hid (textOk_false (i := 1) (by omega) (inB_false (Or.inl n1)))
          go_wp2_with (rw [idx1]; go_simp)
          go_ret
          exact ⟨by rw [hx.out]; rfl, HB1.out⟩
        · by_cases n2 : 200 < a 1
          · have hx : Hid (textOk a = false) := Lib.hid (textOk_false (i := 1) (by omega) (inB_false (Or.inr n2)))
            go_wp2_with (rw [idx1]; go_simp)
            go_ret
            exact ⟨by rw [hx.out]; rfl, HB1.out⟩
          · have hx : Hid (inB (a 1) 0 (most 1) = true) := Lib.hid (inB_iff.2 ⟨by omega, by show a 1 ≤ 200; omega⟩)
            go_wp2_with (rw [idx1]; go_simp)
            go_round
            case rel => exact ⟨2, by omega, by go_num, Lib.hid (upto_succ hall.out hx.out)⟩
            case measure => simp [intOf]
      · obtain ⟨u1, u2⟩ := ha.b2
        have tj := T1.out.t2
        by_cases n1 : a 2 < 0
        · have hx : Hid (textOk a = false) := Lib.hid (textOk_false (i := 2) (by omega) (inB_false (Or.inl n1)))
          go_wp2_with (rw [idx2]; go_simp)
          go_ret
          exact ⟨by rw [hx.out]; rfl, HB1.out⟩
        · by_cases n2 : 20 < a 2
          · have hx : Hid (textOk a = false) := Lib.hid (textOk_false (i := 2) (by omega) (inB_false (Or.inr n2)))
            go_wp2_with (rw [idx2]; go_simp)
            go_ret
            exact ⟨by rw [hx.out]; rfl, HB1.out⟩
          · have hx : Hid (inB (a 2) 0 (most 2) = true) := Lib.hid (inB_iff.2 ⟨by omega, by show a 2 ≤ 20; omega⟩)
            go_wp2_with (rw [idx2]; go_simp)
            go_round
            case rel => exact ⟨3, by omega, by go_num, Lib.hid (upto_succ hall.out hx.out)⟩
            case measure => simp [intOf]
      · obtain ⟨u1, u2⟩ := ha.b3
        have tj := T1.out.t3
        by_cases n1 : a 3 < 0
        · have hx : Hid (textOk a = false) := Lib.hid (textOk_false (i := 3) (by omega) (inB_false (Or.inl n1)))
          go_wp2_with (rw [idx3]; go_simp)
          go_ret
          exact ⟨by rw [hx.out]; rfl, HB1.out⟩
        · by_cases n2 : 1000 < a 3
          · have hx : Hid (textOk a = false) := Lib.hid (textOk_false (i := 3) (by omega) (inB_false (Or.inr n2)))
            go_wp2_with (rw [idx3]; go_simp)
            go_ret
            exact ⟨by rw [hx.out]; rfl, HB1.out⟩
          · have hx : Hid (inB (a 3) 0 (most 3) = true) := Lib.hid (inB_iff.2 ⟨by omega, by show a 3 ≤ 1000; omega⟩)
            go_wp2_with (rw [idx3]; go_simp)
            go_round
            case rel => exact ⟨4, by omega, by go_num, Lib.hid (upto_succ hall.out hx.out)⟩
            case measure => simp [intOf]
      · obtain ⟨u1, u2⟩ := ha.b4
        have tj := T1.out.t4
        by_cases n1 : a 4 < 0
        · have hx : Hid (textOk a = false) := Lib.hid (textOk_false (i := 4) (by omega) (inB_false (Or.inl n1)))
          go_wp2_with (rw [idx4]; go_simp)
          go_ret
          exact ⟨by rw [hx.out]; rfl, HB1.out⟩
        · by_cases n2 : 200 < a 4
          · have hx : Hid (textOk a = false) := Lib.hid (textOk_false (i := 4) (by omega) (inB_false (Or.inr n2)))
            go_wp2_with (rw [idx4]; go_simp)
            go_ret
            exact ⟨by rw [hx.out]; rfl, HB1.out⟩
          · have hx : Hid (inB (a 4) 0 (most 4) = true) := Lib.hid (inB_iff.2 ⟨by omega, by show a 4 ≤ 200; omega⟩)
            go_wp2_with (rw [idx4]; go_simp)
            go_round
            case rel => exact ⟨5, by omega, by go_num, Lib.hid (upto_succ hall.out hx.out)⟩
            case measure => simp [intOf]
      · obtain ⟨u1, u2⟩ := ha.b5
        have tj := T1.out.t5
        by_cases n1 : a 5 < 0
        · have hx : Hid (textOk a = false) := Lib.hid (textOk_false (i := 5) (by omega) (inB_false (Or.inl n1)))
          go_wp2_with (rw [idx5]; go_simp)
          go_ret
          exact ⟨by rw [hx.out]; rfl, HB1.out⟩
        · by_cases n2 : 2 < a 5
          · have hx : Hid (textOk a = false) := Lib.hid (textOk_false (i := 5) (by omega) (inB_false (Or.inr n2)))
            go_wp2_with (rw [idx5]; go_simp)
            go_ret
            exact ⟨by rw [hx.out]; rfl, HB1.out⟩
          · have hx : Hid (inB (a 5) 0 (most 5) = true) := Lib.hid (inB_iff.2 ⟨by omega, by show a 5 ≤ 2; omega⟩)
            go_wp2_with (rw [idx5]; go_simp)
            go_round
            case rel => exact ⟨6, by omega, by go_num, Lib.hid (upto_succ hall.out hx.out)⟩
            case measure => simp [intOf]
    · obtain rfl : k = 6 := by omega
      have hx : Hid (textOk a = true) := Lib.hid (textOk_iff.2 hall.out)
      go_wp2_with fail
      go_ret
      exact ⟨by rw [hx.out]; rfl, HB1.out⟩

/-- What the program asks of a flock: its numbers, and that its cell has a tree. -/
def fitOk (f : Fd) (a : Nat → Int) : Bool := textOk a && f.K (a 0).toNat == 3
theorem fit_flockOk {f : Fd} (hok : okF f = true) (a : Nat → Int) : fitOk f a = flockOk f a := by
  unfold fitOk flockOk textOk treeAt
  cases hp : plainOk a with
  | false => simp
  | true =>
    cases h0 : inB (a 0) 0 99 with
    | false => simp [isCell, h0]
    | true =>
      obtain ⟨h1, h2⟩ := inB_iff.1 h0
      obtain ⟨k, hk⟩ := Int.eq_ofNat_of_zero_le h1
      have hlt : k < 100 := by omega
      rw [hk]
      cases hc : isCell f (k : Int) with
      | true => simp
      | false =>
        have hall : allTo 100 (cellOk f) = true := by simp only [okF, Bool.and_eq_true] at hok; exact hok.2
        have := allTo_iff.1 hall k hlt
        simp only [cellOk, hc, Bool.false_or, Bool.and_eq_true, beq_iff_eq] at this
        simp [this.2.1]
set_option maxRecDepth 100000 in
set_option maxHeartbeats 1000000 in
theorem fits_any (a : Nat → Int) (ha : WfR a) (f : Fd) (_hf : f.Wf) (w : World) (T : TabAt w) : Calls Tryd.prog 86 #[vFlock a, .agg (fcells f)] w fun e w' => e = .returned (.bool (fitOk f a)) ∧ Below w.heap.size w w' := by
  cases ht : textOk a with
  | false =>
    have hr : fitOk f a = false := by simp [fitOk, ht]
    rw [hr]; clear hr
    go_enter Tryd.func86, Tryd.ntmps86
    go_upto_region 1 with (fail)
    obtain ⟨W, hW, M⟩ := open2 w #[.int .i16 (a 0), .int .i16 (a 1), .int .i16 (a 2), .int .i16 (a 3), .int .i16 (a 4), .int .i8 (a 5)] 38 (fcells f) 30
    rw [hW]; clear hW
    have d0 := (M.at 0 rfl).cell (i := 0) rfl
    have d1 := (M.at 0 rfl).cell (i := 1) rfl
    have d2 := (M.at 0 rfl).cell (i := 2) rfl
    have d3 := (M.at 0 rfl).cell (i := 3) rfl
    have d4 := (M.at 0 rfl).cell (i := 4) rfl
    have d5 := (M.at 0 rfl).cell (i := 5) rfl
    go_wp2_with (go_at_call 102; refine (hasText_any a ha _ (T.later M.below)).mono ?_; rintro e W1 ⟨rfl, hb⟩; rw [ht]; have M1 := M.call hb; clear hb)
    go_ret
    exact ⟨rfl, M1.below⟩
  | true =>
    have hr : fitOk f a = (f.K (a 0).toNat == 3) := by simp [fitOk, ht]
    rw [hr]; clear hr
    have h0 := textOk_iff.1 ht 0 (by omega)
    obtain ⟨h1, h2⟩ := inB_iff.1 h0
    have h2' : a 0 ≤ 99 := h2
    obtain ⟨k, hk⟩ := Int.eq_ofNat_of_zero_le h1
    have hlt : k < 100 := by omega
    have hk' := Lib.hid hk
    clear h0 h1 h2 h2' hk
    go_enter Tryd.func86, Tryd.ntmps86
    go_upto_region 1 with (fail)
    obtain ⟨W, hW, M⟩ := open2 w #[.int .i16 (a 0), .int .i16 (a 1), .int .i16 (a 2), .int .i16 (a 3), .int .i16 (a 4), .int .i8 (a 5)] 38 (fcells f) 30
    rw [hW]; clear hW
    have d0 := (M.at 0 rfl).cell (i := 0) rfl
    have d1 := (M.at 0 rfl).cell (i := 1) rfl
    have d2 := (M.at 0 rfl).cell (i := 2) rfl
    have d3 := (M.at 0 rfl).cell (i := 3) rfl
    have d4 := (M.at 0 rfl).cell (i := 4) rfl
    have d5 := (M.at 0 rfl).cell (i := 5) rfl
    have hHT := @hasText_any a ha W (T.later M.below)
    go_wp2_with (go_at_call 102; refine hHT.mono ?_; rintro e W1 ⟨rfl, hb⟩; rw [ht]; have M1 := M.call hb; clear hb d0 d1 d2 d3 d4 d5; have c0 : W1.cell? ⟨w.heap.size, 0, none⟩ = some (.int .i16 (k : Int)) := (by rw [← hk'.out]; exact (M1.at 0 rfl).cell (i := 0) rfl); have cK := (M1.at 1 rfl).cell (fcells_K f k hlt))
    go_ret
    exact ⟨by rw [hk'.out]; rfl, M1.below⟩
end
section
open Go Go.RowKit Go.WideShapes Go.ChangeShapes

theorem Mem.of_two {w0 w : World} {e1 e2 : Ent} (H : Mem w0 w [e1, e2]) : Mem w0 w [e1] :=
  ⟨H.below, fun i e h => H.blk i e (by
    cases i with
    | zero => simpa using h
    | succ i => simp at h), fun i j e e' h h' hij => by
    cases i <;> cases j <;> simp_all⟩
set_option maxRecDepth 100000 in
set_option maxHeartbeats 2000000 in
theorem implValidFlocks (f : Fd) (hf : f.Wf) (n : Nat) (hn : n ≤ 2 ^ 40) (F : Nat → Nat → Int) (hF : WfS ksFlock n F) (d c : Nat) (w : World) (T : TabAt w) (I : InS w d 0 n ksFlock F) :
    Calls Tryd.prog 69 #[.agg (fcells f), .slice (some ⟨d, 0, none⟩) n c] w fun e w' => e = .returned (.bool (okFlocks f n F)) ∧ Below w.heap.size w w' := by
  cases hok : okF f with
  | false =>
    have hr : okFlocks f n F = false := by simp [okFlocks, hok]
    rw [hr]; clear hr
    go_enter Tryd.func69, Tryd.ntmps69
    go_upto_region 1 with (fail)
    obtain ⟨W, hW, M⟩ := open1 w (fcells f) 30
    rw [hW]; clear hW
    go_wp2_with (first
      | (refine wpList_load_part rfl 30 _ rfl w.heap.size 0 rfl (fcells f) _ (M.at 0 rfl).whole Tryd.underlying30 rfl (by rw [fcells_size]; exact sizeFd) ?_)
      | (go_at_call 85; refine (validField_any f hf _).mono ?_; rintro e W2 ⟨rfl, hb⟩; rw [hok]; have M2 := M.call hb))
    go_ret
    exact ⟨rfl, M2.below⟩
  | true =>
    have HT := Lib.hid T
    have HI := Lib.hid I
    have HF := Lib.hid hF
    clear T I hF
    by_cases h12 : 12 < n
    · have hr : okFlocks f n F = false := by simp [okFlocks]; omega
      rw [hr]; clear hr
      go_enter Tryd.func69, Tryd.ntmps69
      go_upto_region 1 with (fail)
      obtain ⟨W, hW, M⟩ := open1 w (fcells f) 30
      rw [hW]; clear hW
      go_wp2_with (first
        | (refine wpList_load_part rfl 30 _ rfl w.heap.size 0 rfl (fcells f) _ (M.at 0 rfl).whole Tryd.underlying30 rfl (by rw [fcells_size]; exact sizeFd) ?_)
        | (go_at_call 85; refine (validField_any f hf _).mono ?_; rintro e W2 ⟨rfl, hb⟩; rw [hok]; have M2 := M.call hb))
      go_ret
      exact ⟨rfl, M2.below⟩
    · have hr : okFlocks f n F = allTo n (fun i => flockOk f (F i)) := by simp [okFlocks, hok]; omega
      rw [hr]; clear hr
      go_enter Tryd.func69, Tryd.ntmps69
      go_upto_region 1 with (fail)
      obtain ⟨W, hW, M⟩ := open1 w (fcells f) 30
      rw [hW]; clear hW
      go_wp2_with (first
        | (refine wpList_load_part rfl 30 _ rfl w.heap.size 0 rfl (fcells f) _ (M.at 0 rfl).whole Tryd.underlying30 rfl (by rw [fcells_size]; exact sizeFd) ?_)
        | (go_at_call 85; refine (validField_any f hf _).mono ?_; rintro e W2 ⟨rfl, hb⟩; rw [hok]; have M2 := Lib.hid (M.call hb); clear hb))
      clear M
      go_loopw [17] (fun i wr => ∃ k : Nat, k ≤ n ∧ i = .int .i64 k ∧ Hid (Mem w wr [⟨w.heap.size, fcells f, 30⟩]) ∧ Hid (∀ i, i < k → flockOk f (F i) = true)) (fun i _ => n - (intOf i).toNat)
      case atStart => exact ⟨0, by omega, rfl, M2, Lib.hid (fun i hi => by omega)⟩
      case round =>
        obtain ⟨k, hk, rfl, hM, hall⟩ := hrel
        by_cases hlt : k < n
        · have hc : FlkAt wr d (k * 6) (F k) := flkAt_of (by have h := HI.out.later hM.out.below k hlt; rw [Nat.zero_add] at h; exact h)
          have hr := HF.out.row hlt
          obtain ⟨c0, c1, c2, c3, c4, c5⟩ := hc
          have q : fitOk f (F k) = flockOk f (F k) := fit_flockOk hok (F k)
          have hload : Hid (∀ cs t, (((wr.alloc (.cells cs t))).rangeAt w.heap.size 0 (fcells f).toList)) := Lib.hid (fun cs t => ((hM.out.alloc cs t).at 0 rfl).whole)
          cases q2 : flockOk f (F k) with
          | true =>
            go_wp2_with (first
              | (refine wpList_load_part rfl 30 _ rfl w.heap.size 0 rfl (fcells f) _ (hload.out _ _) Tryd.underlying30 rfl (by rw [fcells_size]; exact sizeFd) ?_)
              | (go_at_call 86; refine (fits_any (F k) hr f hf _ (HT.out.later (hM.out.alloc _ _).below)).mono ?_; rintro e W3 ⟨rfl, hb3⟩; rw [q, q2]; have M3 := Lib.hid (Mem.of_two ((hM.out.alloc _ _).call hb3)); clear hb3))
            go_roundw
            case rel => exact ⟨k + 1, by omega, by go_num, M3, Lib.hid (upto_succ hall.out q2)⟩
            case measure => simp [intOf]; omega
          | false =>
            have hx : Hid (allTo n (fun i => flockOk f (F i)) = false) := Lib.hid (allTo_false hlt q2)
            go_wp2_with (first
              | (refine wpList_load_part rfl 30 _ rfl w.heap.size 0 rfl (fcells f) _ (hload.out _ _) Tryd.underlying30 rfl (by rw [fcells_size]; exact sizeFd) ?_)
              | (go_at_call 86; refine (fits_any (F k) hr f hf _ (HT.out.later (hM.out.alloc _ _).below)).mono ?_; rintro e W3 ⟨rfl, hb3⟩; rw [q, q2]; have M3 := Lib.hid (Mem.of_two ((hM.out.alloc _ _).call hb3)); clear hb3))
            go_ret
            exact ⟨by rw [hx.out]; rfl, M3.out.below⟩
        · obtain rfl : k = n := by omega
          have hx : Hid (allTo k (fun i => flockOk f (F i)) = true) := Lib.hid (allTo_iff.2 hall.out)
          go_wp2_with fail
          go_ret
          exact ⟨by rw [hx.out]; rfl, hM.out.below⟩
end
section
open Go Go.RowKit

theorem eqFlock_same (F : Nat → Nat → Int) (i : Nat) (w : World) : Calls Tryd.prog 56 #[.agg (srow ksFlock F i), .agg (srow ksFlock F i)] w fun e w' => e = .returned (.bool true) ∧ Below w.heap.size w w' := by
  suffices ∀ a : Nat → Int, Calls Tryd.prog 56 #[vFlock a, vFlock a] w fun e w' => e = .returned (.bool true) ∧ Below w.heap.size w w' from this (F i)
  intro a
  go_enter Tryd.func56, Tryd.ntmps56
  go_wp2_with fail
  go_ret
  exact ⟨rfl, ((Below.refl _ _).alloc (Nat.le_refl _) _).alloc (by simp) _⟩
set_option maxRecDepth 100000 in
set_option maxHeartbeats 800000 in
theorem eqFlockS_same (n : Nat) (hn : n ≤ 2 ^ 40) (F : Nat → Nat → Int) (b d c e : Nat) (w : World) (I1 : InS w b 0 n ksFlock F) (I2 : InS w d 0 n ksFlock F) :
    Calls Tryd.prog 25 #[.slice (some ⟨b, 0, none⟩) n c, .slice (some ⟨d, 0, none⟩) n e] w fun e w' => e = .returned (.bool true) ∧ Below w.heap.size w w' := by
  have H1 := Lib.hid I1
  have H2 := Lib.hid I2
  clear I1 I2
  go_enter Tryd.func25, Tryd.ntmps25
  go_wp2_with fail
  go_loopw [5] (fun i wr => ∃ k : Nat, k ≤ n ∧ i = .int .i64 k ∧ Below w.heap.size w wr) (fun i _ => n - (intOf i).toNat)
  case atStart => exact ⟨0, by omega, rfl, Below.refl _ _⟩
  case round =>
    obtain ⟨k, hk, rfl, hb⟩ := hrel
    by_cases hlt : k < n
    · have g1 : Hid (∀ w', Below w.heap.size w w' → w'.rangeAt b (0 + k * 6) (srow ksFlock F k).toList) := Lib.hid (fun w' hw' => InS.elem (ks := ksFlock) H1.out (by decide) hw' hlt)
      have g2 : Hid (∀ w', Below w.heap.size w w' → w'.rangeAt d (0 + k * 6) (srow ksFlock F k).toList) := Lib.hid (fun w' hw' => InS.elem (ks := ksFlock) H2.out (by decide) hw' hlt)
      go_upto_region 6 with (fail)
      refine wp_region_rel (DL [dV (.slice (some ⟨b, 0, none⟩) n c), dV (.int .i64 k), dV (.pointer (some ⟨b, 0 + k * 6, none⟩)), dV (.agg (srow ksFlock F k)), dV (.slice (some ⟨d, 0, none⟩) n e), dV (.int .i64 k), dV (.pointer (some ⟨d, 0 + k * 6, none⟩)), dV (.agg (srow ksFlock F k)), dV (.bool true), dV (.bool false)]) (fun w' => Below w.heap.size w w') (by kernel_rfl) (by kernel_rfl) (fun _ _ h h' => h.trans (h'.mono h.size))
        (stays_DL (fun d hd => by
          simp only [List.mem_cons, List.mem_nil_iff, or_false] at hd
          rcases hd with rfl | rfl | rfl | rfl | rfl | rfl | rfl | rfl | rfl | rfl <;> exact stay_V)) hb.drew ?_
      refine rel_val _ rfl rfl (fun _ _ => rfl) (fun x0 => ?_)
      simp only [Act.put, List.setIfInBounds_toArray, List.set_cons_zero, List.set_cons_succ]
      refine rel_val _ rfl rfl (fun _ _ => rfl) (fun x1 => ?_)
      simp only [Act.put, List.setIfInBounds_toArray, List.set_cons_zero, List.set_cons_succ]
      refine rel_index 51 38 _ _ rfl b 0 n c 6 k rfl rfl hlt Tryd.underlying51 (by kernel_rfl) rfl rfl (fun x2 => ?_)
      simp only [Act.put, List.setIfInBounds_toArray, List.set_cons_zero, List.set_cons_succ]
      refine rel_load 38 _ rfl b (0 + k * 6) rfl (srow ksFlock F k) _ rfl rfl g1.out Tryd.underlying38 rfl (by rw [srow_size]; kernel_rfl) (fun x3 => ?_)
      simp only [Act.put, List.setIfInBounds_toArray, List.set_cons_zero, List.set_cons_succ]
      refine rel_val _ rfl rfl (fun _ _ => rfl) (fun x4 => ?_)
      simp only [Act.put, List.setIfInBounds_toArray, List.set_cons_zero, List.set_cons_succ]
      refine rel_val _ rfl rfl (fun _ _ => rfl) (fun x5 => ?_)
      simp only [Act.put, List.setIfInBounds_toArray, List.set_cons_zero, List.set_cons_succ]
      refine rel_index 51 38 _ _ rfl d 0 n e 6 k rfl rfl hlt Tryd.underlying51 (by kernel_rfl) rfl rfl (fun x6 => ?_)
      simp only [Act.put, List.setIfInBounds_toArray, List.set_cons_zero, List.set_cons_succ]
      refine rel_load 38 _ rfl d (0 + k * 6) rfl (srow ksFlock F k) _ rfl rfl g2.out Tryd.underlying38 rfl (by rw [srow_size]; kernel_rfl) (fun x7 => ?_)
      simp only [Act.put, List.setIfInBounds_toArray, List.set_cons_zero, List.set_cons_succ]
      refine rel_call _ 56 #[.agg (srow ksFlock F k), .agg (srow ksFlock F k)] rfl rfl rfl rfl (enters_of Tryd.func56 (by kernel_rfl) rfl) (fun w' _ => eqFlock_same F k w') (fun x8 => ?_)
      simp only [Act.put, List.setIfInBounds_toArray, List.set_cons_zero, List.set_cons_succ]
      refine rel_val _ rfl rfl (fun _ _ => rfl) (fun x9 => ?_)
      simp only [Act.put, List.setIfInBounds_toArray, List.set_cons_zero, List.set_cons_succ]
      refine rel_nil (fun w' inv => ?_)
      have hb' := inv.cls
      clear inv
      go_wp2_with fail
      go_roundw
      case rel => exact ⟨k + 1, by omega, by go_num, hb'⟩
      case measure => simp [intOf]; omega
    · obtain rfl : k = n := by omega
      go_wp2_with fail
      go_ret
      exact ⟨rfl, hb⟩
theorem szFlockS_any (n c : Nat) (hn : n ≤ 9223372036854775807) (p : Option Addr) (left : Int) (h1 : -9223372036854775808 ≤ left - n) (h0 : -9223372036854775808 ≤ left) (h2 : left ≤ 9223372036854775807) (w : World) :
    Calls Tryd.prog 21 #[.slice p n c, .int .i64 left] w fun e w' => e = .returned (.int .i64 (if left - n < 0 then -1 else left - n)) ∧ w = w' := by
  by_cases h : left - n < 0
  · rw [if_pos h]
    go_enter Tryd.func21, Tryd.ntmps21
    go_wp2_with fail
    go_ret
    exact ⟨rfl, rfl⟩
  · rw [if_neg h]
    have h' : 0 ≤ left - n := by omega
    clear h
    go_enter Tryd.func21, Tryd.ntmps21
    go_wp2_with fail
    go_ret
    exact ⟨rfl, rfl⟩
theorem toFlockS_nilA (F : Nat → Nat → Int) (p : Option Addr) (c : Nat) (w : World) : Calls Tryd.prog 23 #[.slice p 0 c] w fun e w' => ∃ b', e = .returned (.slice (some ⟨b', 0, none⟩) 0 0) ∧ w.heap.size ≤ b' ∧ Blk w' b' (scells ksFlock 0 F) 38 ∧ Below w.heap.size w w' := by
  go_enter Tryd.func23, Tryd.ntmps23
  go_wp2_with (refine wpList_make (BY := 12) rfl 51 38 _ rfl 0 rfl ksFlock Tryd.underlying51 (by kernel_rfl) (by kernel_rfl) (by omega) (by omega) ?_)
  obtain ⟨W, hW, M⟩ := open1 w (scells ksFlock 0 (fun _ _ => 0)) 38
  rw [hW]; clear hW
  refine wp_loop_rounds 1 ?_
  rw [rounds_succ]
  go_wp2_with fail
  go_ret
  exact ⟨_, rfl, Nat.le_refl _, M.at 0 rfl, M.below⟩
end
section
open Go Go.RowKit Go.WideShapes Go.ChangeShapes Go.Deep

/-- What a slice argument reads: nothing where it is empty; else elements in a block. -/
def InA (ks : List IntKind) (w : World) (p : Option Addr) (n : Nat) (F : Nat → Nat → Int) : Prop := n = 0 ∨ ∃ b o, p = some ⟨b, o, none⟩ ∧ InS w b o n ks F
theorem InA.later {ks : List IntKind} {w w' : World} {p : Option Addr} {n : Nat} {F : Nat → Nat → Int} (h : InA ks w p n F) (hb : Below w.heap.size w w') : InA ks w' p n F := by
  rcases h with h | ⟨b, o, e, I⟩
  · exact .inl h
  · exact .inr ⟨b, o, e, I.later hb⟩

/-- A closed fact about a struct's fields: each is one integer of the kind told, one behind the other. -/
def intFields (P : Program) (ks : List IntKind) (fs : Array Field) : Bool := fs.size == ks.length && (List.range ks.length).all fun j => match fs[j]? with
  | some f => f.offset == j && P.cellsOf f.type == 1 && (match P.underlying f.type with | some (.int k) => decide (k = ks.getD j .i64) | _ => false)
  | none => false
theorem intFields_of {P : Program} {ks : List IntKind} {fs : Array Field} (h : intFields P ks fs = true) : fs.size = ks.length ∧ ∀ (j : Nat) (f : Field), fs[j]? = some f → f.offset = j ∧ P.cellsOf f.type = 1 ∧ P.underlying f.type = some (.int (ks.getD j .i64)) := by
  unfold intFields at h
  rw [Bool.and_eq_true] at h
  obtain ⟨h1, h2⟩ := h
  have h1 : fs.size = ks.length := by simpa using h1
  refine ⟨h1, fun j f hj => ?_⟩
  have hlt : j < ks.length := by rw [← h1]; exact (Array.getElem?_eq_some_iff.1 hj).1
  have := List.all_eq_true.1 h2 j (List.mem_range.2 hlt)
  rw [hj] at this
  simp only [Bool.and_eq_true, beq_iff_eq] at this
  obtain ⟨⟨e1, e2⟩, e3⟩ := this
  refine ⟨e1, e2, ?_⟩
  split at e3
  · rename_i k hk
    rw [hk, of_decide_eq_true e3]
  · exact absurd e3 (by simp)

theorem open_ints {H : Type} {enc : TypeId × Value → H} {P : Program} {w : World} {b0 base : Nat} {r : Reach} {spare : Nat → Bool} {held : Bool} {t e : TypeId} {fs : Array Field} {ks : List IntKind} {v : Value} {d : DataW H} {pl : List MemPlace}
    (ht : P.underlying t = some (.slice e)) (he : P.underlying e = some (.struct fs)) (hpos : 0 < ks.length) (hC : P.cellsOf e = ks.length) (hfi : intFields P ks fs = true)
    (hv : Value.okWide P w r b0 t v) (h : DataW.Trod enc P w base spare held t v d pl) :
    ∃ (p : Option Addr) (n c : Nat) (F : Nat → Nat → Int), v = .slice p n c ∧ n ≤ maxLen ∧ InA ks w p n F ∧ WfS ks n F := by
  obtain ⟨hsz, hf⟩ := intFields_of hfi
  obtain ⟨a, len, cap, rfl⟩ := okWide_slice ht hv
  obtain ⟨fuel, hfu⟩ := h
  have hfu' : DataW.trod enc P w base spare held fuel t [.slice a len cap] = some (d, pl) := hfu
  rcases open_slice ht hfu' with ⟨h0, _⟩ | ⟨a', len', cap', m, n', D, Pl, hcs, _, hl, hm, hmm, _, hi⟩
  · simp only [List.cons.injEq, Value.slice.injEq, and_true] at h0
    obtain ⟨rfl, rfl, rfl⟩ := h0
    exact ⟨_, _, _, fun _ _ => 0, rfl, Nat.zero_le _, .inl rfl, fun i hi => absurd hi (by omega)⟩
  · simp only [List.cons.injEq, Value.slice.injEq, and_true] at hcs
    obtain ⟨rfl, rfl, rfl⟩ := hcs
    have hlm : len ≤ m := by rw [hmm]; split <;> omega
    have key : ∀ i j, ∃ k : Int, i < len → j < ks.length → w.cell? ((a'.add (i * ks.length)).add j) = some (.int (ks.getD j .i64) k) ∧ (Lit.int (ks.getD j .i64) k).wf = true := fun i j => by
      by_cases hij : i < len ∧ j < ks.length
      · obtain ⟨cs', hc, htr⟩ := hi i (by omega)
        rw [hC] at hc
        obtain ⟨ys, n2, _, _, hlen, hyl, hfl⟩ := DataW.trod_struct he htr
        obtain ⟨_, hcl, hat⟩ := World.cells?_some hc
        have hjf : j < fs.size := by omega
        have hfj : fs[j]? = some fs[j] := Array.getElem?_eq_getElem hjf
        obtain ⟨ho, hc1, hu⟩ := hf j _ hfj
        have h1 := hfl j _ hfj
        rw [ho, hc1, List.getElem?_eq_getElem (by omega)] at h1
        obtain ⟨k, e1, e2⟩ := part_int hu h1
        exact ⟨k, fun _ _ => ⟨by rw [hat j hij.2, e1], e2⟩⟩
      · exact ⟨0, fun h1 h2 => absurd ⟨h1, h2⟩ hij⟩
    obtain ⟨F, hF⟩ : ∃ F : Nat → Nat → Int, ∀ i j, i < len → j < ks.length → w.cell? ((a'.add (i * ks.length)).add j) = some (.int (ks.getD j .i64) (F i j)) ∧ (Lit.int (ks.getD j .i64) (F i j)).wf = true := ⟨fun i j => Classical.choose (key i j), fun i j => Classical.choose_spec (key i j)⟩
    clear key
    refine ⟨_, _, _, F, rfl, by omega, ?_, fun i hi j hj => (hF i j hi hj).2⟩
    by_cases hz : len = 0
    · exact .inl hz
    · obtain ⟨b, o, spot⟩ := a'
      have h00 := (hF 0 0 (by omega) hpos).1
      have hspot : spot = none := by simpa [Addr.add] using World.cell?_spot h00
      subst hspot
      refine .inr ⟨b, o, rfl, fun i hi j x hx => ?_⟩
      have hj : j < ks.length := by
        have := (List.getElem?_eq_some_iff.1 hx).1
        simpa [srow_size] using this
      have hx' : (srow ks F i)[j]? = some x := by simpa using hx
      rw [srow_get _ _ _ _ hj] at hx'
      have h := (hF i j hi hj).1
      rw [Addr.add_mid, Addr.add_mid] at h
      rw [h]
      exact hx'

theorem toFlockS_arg (n : Nat) (hn : n ≤ 2 ^ 40) (F : Nat → Nat → Int) (p : Option Addr) (c : Nat) (w : World) (I : InA ksFlock w p n F) : Calls Tryd.prog 23 #[.slice p n c] w fun e w' => ∃ b', e = .returned (.slice (some ⟨b', 0, none⟩) n n) ∧ InS w' b' 0 n ksFlock F ∧ Below w.heap.size w w' := by
  rcases I with rfl | ⟨b, o, rfl, I⟩
  · refine (toFlockS_nilA F p c w).mono ?_
    rintro e w' ⟨b', rfl, _, hB, hb⟩
    exact ⟨b', rfl, hB.inS, hb⟩
  · refine (toFlockS_any n hn F b o c w I).mono ?_
    rintro e w' ⟨b', rfl, _, hB, hb⟩
    exact ⟨b', rfl, hB.inS, hb⟩
end
end Go.Proofs.YtaioflkonpommaaDoor
