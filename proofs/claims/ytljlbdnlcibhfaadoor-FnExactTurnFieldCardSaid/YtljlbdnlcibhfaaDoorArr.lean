/-
  Fields rearranged: the model's MirrorField and TurnField.
-/
import Derived.Test.YtljlbdnlcibhfaaDoorAt
import Derived.Test.YtljlbdnlcibhfaaDoorRow
import Derived.Test.YtljlbdnlcibhfaaDoorIn
import Derived.Test.YtljlbdnlcibhfaaDoorValid
import Derived.Test.YtljlbdnlcibhfaaDoorSpotW
import Derived.Test.YtljlbdnlcibhfaaDoorPlain
import Derived.BigRegion
namespace Go.Proofs.YtljlbdnlcibhfaaDoor
open Go Go.RowKit Go.Shelf

/-- The first cells of a field of these sizes, each taken from another field's. -/
def arr (f : Fd) (a b : Int) (q : Nat → Nat) (n : Nat) : Fd := ⟨a, b, fun i => if i < n ∧ isCell (Fd.bare a b) i = true then f.K (q i) else 0, fun i => if i < n ∧ isCell (Fd.bare a b) i = true then f.S (q i) else 0⟩
theorem arr_zero (f : Fd) (a b : Int) (q : Nat → Nat) : fcells (Fd.bare a b) = fcells (arr f a b q 0) := fcells_congr rfl rfl (fun i _ => by simp [arr, Fd.bare]) (fun i _ => by simp [arr, Fd.bare])
theorem arr_yes {f : Fd} {a b : Int} {q : Nat → Nat} {k : Nat} (h : isCell (Fd.bare a b) k = true) : fcells (((arr f a b q k).setK k (f.K (q k))).setS k (f.S (q k))) = fcells (arr f a b q (k + 1)) := by
  have e1 : ∀ i, i ≠ k → ((i < k + 1 ∧ isCell (Fd.bare a b) i = true) ↔ (i < k ∧ isCell (Fd.bare a b) i = true)) := fun i e => by constructor <;> (rintro ⟨x, y⟩; exact ⟨by omega, y⟩)
  refine fcells_congr rfl rfl (fun i _ => ?_) (fun i _ => ?_)
  · simp only [arr, Fd.setK, Fd.setS]
    by_cases e : i = k
    · subst e; simp [h]
    · rw [if_neg e]; simp only [e1 i e]
  · simp only [arr, Fd.setK, Fd.setS]
    by_cases e : i = k
    · subst e; simp [h]
    · rw [if_neg e]; simp only [e1 i e]
theorem arr_no {f : Fd} {a b : Int} {q : Nat → Nat} {k : Nat} (h : isCell (Fd.bare a b) k = false) : fcells (arr f a b q k) = fcells (arr f a b q (k + 1)) := by
  have e1 : ∀ i, ((i < k + 1 ∧ isCell (Fd.bare a b) i = true) ↔ (i < k ∧ isCell (Fd.bare a b) i = true)) := fun i => by
    constructor
    · rintro ⟨x, y⟩
      refine ⟨?_, y⟩
      rcases Nat.lt_or_ge i k with h' | h'
      · exact h'
      · have : i = k := by omega
        subst this; rw [h] at y; cases y
    · rintro ⟨x, y⟩; exact ⟨by omega, y⟩
  exact fcells_congr rfl rfl (fun i _ => by simp only [arr, e1]) (fun i _ => by simp only [arr, e1])
set_option maxRecDepth 100000 in
set_option maxHeartbeats 1000000 in
theorem l01Copied_any (g f : Fd) (hf : f.Wf) (c : Nat) (hc : c < 100) (o : Int) (p : Nat) (hp : p < 100) (ho : o = (p : Int)) (tb fb : Nat) (hne : fb ≠ tb) (w : World) (G : Blk w tb (fcells g) 27) (B : Blk w fb (fcells f) 27) :
    Calls Tryd.prog 50 #[.pointer (some ⟨tb, 0, none⟩), .int .i64 c, .pointer (some ⟨fb, 0, none⟩), .int .i64 o] w fun e w' => (∃ v, e = .returned v) ∧ (((w.setCell ⟨tb, 2 + c, none⟩ (.int .u8 (f.K p))).drew).setCell ⟨tb, 102 + c, none⟩ (.int .i16 (f.S p))).drew = w' := by
  subst ho
  have hc1 : (c : Int) < 100 := by omega
  have hp1 : (p : Int) < 100 := by omega
  have cK := B.cell (fcells_K f p hp)
  have cS := B.cell (fcells_S f p hp)
  have dK := G.cell (fcells_K g c hc)
  have dS := G.cell (fcells_S g c hc)
  have eK := G.free (2 + c)
  have eS := G.free (102 + c)
  go_enter Tryd.func50, Tryd.ntmps50
  go_wp2_with fail
  go_region
  all_goals go_wp2_with fail
  all_goals go_region
  all_goals (go_end0; exact ⟨⟨_, rfl⟩, rfl⟩)
def mirrorAt (f : Fd) (k : Nat) : Nat := (f.W - 1 - k % 10 + 10 * (k / 10)).toNat
def turnAt (f : Fd) (k : Nat) : Nat := (((k / 10 : Nat) : Int) + 10 * (f.H - 1 - ((k % 10 : Nat) : Int))).toNat
theorem mirror_nat {f : Fd} (hW : f.W ≤ 10) {k : Nat} (h : isCell (Fd.bare f.W f.H) k = true) : mirrorAt f k < 100 ∧ (mirrorAt f k : Int) = f.W - 1 - (k : Int) % 10 + 10 * ((k : Int) / 10) := by
  simp only [isCell, Fd.bare, Bool.and_eq_true, inB_iff] at h
  obtain ⟨⟨h1, h2⟩, h3⟩ := h
  have h2 := of_decide_eq_true h2
  have h3 := of_decide_eq_true h3
  unfold mirrorAt
  omega
theorem turn_nat {f : Fd} (hH : f.H ≤ 10) {k : Nat} (h : isCell (Fd.bare f.H f.W) k = true) (hW : f.W ≤ 10) : turnAt f k < 100 ∧ (turnAt f k : Int) = (k : Int) / 10 + 10 * (f.H - 1 - (k : Int) % 10) := by
  simp only [isCell, Fd.bare, Bool.and_eq_true, inB_iff] at h
  obtain ⟨⟨h1, h2⟩, h3⟩ := h
  have h2 := of_decide_eq_true h2
  have h3 := of_decide_eq_true h3
  unfold turnAt
  omega
def mirrored (f : Fd) : Fd := if okF f then arr f f.W f.H (mirrorAt f) 100 else Fd.zero
def turnedQ (f : Fd) : Fd := if okF f then arr f f.H f.W (turnAt f) 100 else Fd.zero

set_option maxRecDepth 100000 in
set_option maxHeartbeats 4000000 in
theorem specMirrorField (f : Fd) (hf : f.Wf) (w : World) : Calls Tryd.prog 22 #[.agg (fcells f)] w fun e w' => e = .returned (.tuple #[.agg (fcells (mirrored f)), .int .i64 (if okF f then 0 else 1)]) ∧ Below w.heap.size w w' := by
  have hz : Hid (Tryd.zeroCells27.size = 202) := Lib.hid (by rw [zeroFd, fcells_size])
  have hz1 : Hid (Tryd.zeroCells27.all (·.oneCell') = true) := Lib.hid (by rw [zeroFd]; exact fcells_one _)
  unfold mirrored
  cases hok : okF f with
  | false =>
    simp only [Bool.false_eq_true, if_false]
    go_enter Tryd.func22, Tryd.ntmps22
    go_upto_region 1 with (fail)
    obtain ⟨W, hW, M⟩ := open2 w (fcells f) 27 Tryd.zeroCells27 27
    rw [hW]; clear hW
    go_wp2_with (first
      | (go_at_call 35; refine (l01Ok_any f hf _ _ (M.at 0 rfl)).mono ?_; rintro e w' ⟨rfl, rfl⟩; rw [hok])
      | (refine wpList_store_row rfl 27 _ _ rfl (w.heap.size + 1) Tryd.zeroCells27 rfl rfl 27 _ (M.at 1 rfl) (by rw [hz.out]; exact sizeFd) (by rw [hz.out]) hz1.out ?_))
    have M4 := M.row 1 rfl Tryd.zeroCells27
    exact bodyPost_ret (results_row_tmp rfl _ _ (w.heap.size + 1) 27 _ _ _ rfl (M4.at 1 rfl) Tryd.underlying27 rfl (by rw [hz.out]; exact sizeFd)) rfl ⟨by rw [zeroFd]; rfl, M4.below⟩
  | true =>
    simp only [if_true]
    have hs := okF_size hok
    obtain ⟨hs1, hs2, hs3, hs4⟩ := hs
    go_enter Tryd.func22, Tryd.ntmps22
    go_upto_region 1 with (fail)
    obtain ⟨W, hW, M⟩ := open2 w (fcells f) 27 Tryd.zeroCells27 27
    rw [hW]; clear hW
    have c0 := (M.at 0 rfl).cell (fcells_0 f)
    have c1 := (M.at 0 rfl).cell (fcells_1 f)
    go_upto_region 4 with (first
      | (go_at_call 35; refine (l01Ok_any f hf _ _ (M.at 0 rfl)).mono ?_; rintro e w' ⟨rfl, rfl⟩; rw [hok])
      | (refine wpList_build rfl 27 _ rfl #[(0, .int .i8 f.W), (1, .int .i8 f.H)] rfl (.agg (fcells (Fd.bare f.W f.H))) (by kernel_rfl) ?_)
      | (refine wpList_store_row rfl 27 _ _ rfl W.heap.size (fcells (Fd.bare f.W f.H)) rfl rfl 27 _ ((M.alloc Tryd.zeroCells27 27).at 2 rfl) (by rw [fcells_size]; exact sizeFd) (by rw [hz.out, fcells_size]) (fcells_one _) ?_))
    have M3 := (M.alloc Tryd.zeroCells27 27).row 2 rfl (fcells (Fd.bare f.W f.H))
    rw [arr_zero f f.W f.H (mirrorAt f)] at M3 ⊢
    have hlt := M.below.size
    obtain ⟨ob, hob⟩ : ∃ ob, ob = W.heap.size := ⟨_, rfl⟩
    have hne : Hid (w.heap.size ≠ ob) := Lib.hid (by
      have := (M.at 0 rfl).lt
      omega)
    rw [← hob] at M3 ⊢
    clear hob hlt
    generalize World.setRow _ _ _ = W3 at M3 ⊢
    have M3' : Mem w W3 [⟨w.heap.size, fcells f, 27⟩, ⟨w.heap.size + 1, Tryd.zeroCells27, 27⟩, ⟨ob, fcells (arr f f.W f.H (mirrorAt f) 0), 27⟩] := M3
    clear M M3 c0 c1
    have H8 : Hid ((-128 ≤ f.W ∧ f.W ≤ 127) ∧ (-128 ≤ f.H ∧ f.H ≤ 127)) := Lib.hid ⟨⟨by omega, by omega⟩, ⟨by omega, by omega⟩⟩
    go_wp2_with fail
    go_loopw [5] (fun i wr => ∃ k : Nat, k ≤ 100 ∧ i = .int .i64 k ∧ Hid (Mem w wr [⟨w.heap.size, fcells f, 27⟩, ⟨w.heap.size + 1, Tryd.zeroCells27, 27⟩, ⟨ob, fcells (arr f f.W f.H (mirrorAt f) k), 27⟩])) (fun i _ => 100 - (intOf i).toNat)
    case atStart => exact ⟨0, by omega, rfl, Lib.hid M3'⟩
    case round =>
      clear M3'
      obtain ⟨k, hk, rfl, hM⟩ := hrel
      by_cases hlt : k < 100
      · cases hc : isCell (Fd.bare f.W f.H) k with
        | true =>
          have hq := mirror_nat hs2 hc
          obtain ⟨hq1, hq2⟩ := hq
          have c0 := (hM.out.at 0 rfl).cell (fcells_0 f)
          have c1 := (hM.out.at 0 rfl).cell (fcells_1 f)
          have M4 := Lib.hid (((hM.out.set 2 (2 + k) (.int .u8 (f.K (mirrorAt f k))) rfl _ (fcells_setK (arr f f.W f.H (mirrorAt f) k) k (f.K (mirrorAt f k)) hlt)).drew.set 2 (102 + k) (.int .i16 (f.S (mirrorAt f k))) rfl _ ((fcells_setS _ k (f.S (mirrorAt f k)) hlt).trans (arr_yes hc))).drew)
          go_wp2_with (first
            | (go_at_call 28; refine (l01Is_any f k w.heap.size _ H8.out.1 H8.out.2 (hM.out.at 0 rfl)).mono ?_; rintro e w' ⟨rfl, rfl⟩; rw [show isCell f k = true from hc])
            | (go_at_call 50; refine (l01Copied_any (arr f f.W f.H (mirrorAt f) k) f hf k hlt _ (mirrorAt f k) hq1 (by omega) ob w.heap.size hne.out _ (hM.out.at 2 rfl) (hM.out.at 0 rfl)).mono ?_; rintro e w2 ⟨⟨_, rfl⟩, rfl⟩))
          go_roundw
          case rel => exact ⟨k + 1, by omega, by go_num, M4⟩
          case measure => simp [intOf]; omega
        | false =>
          go_wp2_with ((go_at_call 28; refine (l01Is_any f k w.heap.size _ H8.out.1 H8.out.2 (hM.out.at 0 rfl)).mono ?_; rintro e w' ⟨rfl, rfl⟩; rw [show isCell f k = false from hc]))
          go_roundw
          case rel => exact ⟨k + 1, by omega, by go_num, by rw [← arr_no hc]; exact hM⟩
          case measure => simp [intOf]; omega
      · obtain rfl : k = 100 := by omega
        have M5 := hM.out.row 1 rfl (fcells (arr f f.W f.H (mirrorAt f) 100))
        go_wp2_with (first
          | (refine wpList_load_part rfl 27 _ rfl ob 0 rfl (fcells (arr f f.W f.H (mirrorAt f) 100)) _ (hM.out.at 2 rfl).whole Tryd.underlying27 rfl (by rw [fcells_size]; exact sizeFd) ?_)
          | (refine wpList_store_row rfl 27 _ _ rfl (w.heap.size + 1) (fcells (arr f f.W f.H (mirrorAt f) 100)) rfl rfl 27 _ (hM.out.at 1 rfl) (by rw [fcells_size]; exact sizeFd) (by rw [hz.out, fcells_size]) (fcells_one _) ?_))
        exact bodyPost_ret (results_row_tmp rfl _ _ (w.heap.size + 1) 27 _ _ _ rfl (M5.at 1 rfl) Tryd.underlying27 rfl (by rw [fcells_size]; exact sizeFd)) rfl ⟨rfl, M5.below⟩

set_option maxRecDepth 100000 in
set_option maxHeartbeats 4000000 in
theorem specTurnField (f : Fd) (hf : f.Wf) (w : World) : Calls Tryd.prog 24 #[.agg (fcells f)] w fun e w' => e = .returned (.tuple #[.agg (fcells (turnedQ f)), .int .i64 (if okF f then 0 else 1)]) ∧ Below w.heap.size w w' := by
  have hz : Hid (Tryd.zeroCells27.size = 202) := Lib.hid (by rw [zeroFd, fcells_size])
  have hz1 : Hid (Tryd.zeroCells27.all (·.oneCell') = true) := Lib.hid (by rw [zeroFd]; exact fcells_one _)
  unfold turnedQ
  cases hok : okF f with
  | false =>
    simp only [Bool.false_eq_true, if_false]
    go_enter Tryd.func24, Tryd.ntmps24
    go_upto_region 1 with (fail)
    obtain ⟨W, hW, M⟩ := open2 w (fcells f) 27 Tryd.zeroCells27 27
    rw [hW]; clear hW
    go_wp2_with (first
      | (go_at_call 35; refine (l01Ok_any f hf _ _ (M.at 0 rfl)).mono ?_; rintro e w' ⟨rfl, rfl⟩; rw [hok])
      | (refine wpList_store_row rfl 27 _ _ rfl (w.heap.size + 1) Tryd.zeroCells27 rfl rfl 27 _ (M.at 1 rfl) (by rw [hz.out]; exact sizeFd) (by rw [hz.out]) hz1.out ?_))
    have M4 := M.row 1 rfl Tryd.zeroCells27
    exact bodyPost_ret (results_row_tmp rfl _ _ (w.heap.size + 1) 27 _ _ _ rfl (M4.at 1 rfl) Tryd.underlying27 rfl (by rw [hz.out]; exact sizeFd)) rfl ⟨by rw [zeroFd]; rfl, M4.below⟩
  | true =>
    simp only [if_true]
    have hs := okF_size hok
    obtain ⟨hs1, hs2, hs3, hs4⟩ := hs
    go_enter Tryd.func24, Tryd.ntmps24
    go_upto_region 1 with (fail)
    obtain ⟨W, hW, M⟩ := open2 w (fcells f) 27 Tryd.zeroCells27 27
    rw [hW]; clear hW
    have c0 := (M.at 0 rfl).cell (fcells_0 f)
    have c1 := (M.at 0 rfl).cell (fcells_1 f)
    go_upto_region 4 with (first
      | (go_at_call 35; refine (l01Ok_any f hf _ _ (M.at 0 rfl)).mono ?_; rintro e w' ⟨rfl, rfl⟩; rw [hok])
      | (refine wpList_build rfl 27 _ rfl #[(0, .int .i8 f.H), (1, .int .i8 f.W)] rfl (.agg (fcells (Fd.bare f.H f.W))) (by kernel_rfl) ?_)
      | (refine wpList_store_row rfl 27 _ _ rfl W.heap.size (fcells (Fd.bare f.H f.W)) rfl rfl 27 _ ((M.alloc Tryd.zeroCells27 27).at 2 rfl) (by rw [fcells_size]; exact sizeFd) (by rw [hz.out, fcells_size]) (fcells_one _) ?_))
    have M3 := (M.alloc Tryd.zeroCells27 27).row 2 rfl (fcells (Fd.bare f.H f.W))
    rw [arr_zero f f.H f.W (turnAt f)] at M3 ⊢
    have hlt := M.below.size
    obtain ⟨ob, hob⟩ : ∃ ob, ob = W.heap.size := ⟨_, rfl⟩
    have hne : Hid (w.heap.size ≠ ob) := Lib.hid (by
      have := (M.at 0 rfl).lt
      omega)
    rw [← hob] at M3 ⊢
    clear hob hlt
    generalize World.setRow _ _ _ = W3 at M3 ⊢
    have M3' : Mem w W3 [⟨w.heap.size, fcells f, 27⟩, ⟨w.heap.size + 1, Tryd.zeroCells27, 27⟩, ⟨ob, fcells (arr f f.H f.W (turnAt f) 0), 27⟩] := M3
    clear M M3 c0 c1
    have H8 : Hid ((-128 ≤ f.W ∧ f.W ≤ 127) ∧ (-128 ≤ f.H ∧ f.H ≤ 127)) := Lib.hid ⟨⟨by omega, by omega⟩, ⟨by omega, by omega⟩⟩
    go_wp2_with fail
    go_loopw [5] (fun i wr => ∃ k : Nat, k ≤ 100 ∧ i = .int .i64 k ∧ Hid (Mem w wr [⟨w.heap.size, fcells f, 27⟩, ⟨w.heap.size + 1, Tryd.zeroCells27, 27⟩, ⟨ob, fcells (arr f f.H f.W (turnAt f) k), 27⟩])) (fun i _ => 100 - (intOf i).toNat)
    case atStart => exact ⟨0, by omega, rfl, Lib.hid M3'⟩
    case round =>
      clear M3'
      obtain ⟨k, hk, rfl, hM⟩ := hrel
      by_cases hlt : k < 100
      · cases hc : isCell (Fd.bare f.H f.W) k with
        | true =>
          have hq := turn_nat hs4 hc hs2
          obtain ⟨hq1, hq2⟩ := hq
          have c0 := (hM.out.at 0 rfl).cell (fcells_0 f)
          have c1 := (hM.out.at 0 rfl).cell (fcells_1 f)
          have M4 := Lib.hid (((hM.out.set 2 (2 + k) (.int .u8 (f.K (turnAt f k))) rfl _ (fcells_setK (arr f f.H f.W (turnAt f) k) k (f.K (turnAt f k)) hlt)).drew.set 2 (102 + k) (.int .i16 (f.S (turnAt f k))) rfl _ ((fcells_setS _ k (f.S (turnAt f k)) hlt).trans (arr_yes hc))).drew)
          go_wp2_with (first
            | (go_at_call 28; refine (l01Is_any (arr f f.H f.W (turnAt f) k) k ob _ H8.out.2 H8.out.1 (hM.out.at 2 rfl)).mono ?_; rintro e w' ⟨rfl, rfl⟩; rw [show isCell (arr f f.H f.W (turnAt f) k) k = true from hc])
            | (go_at_call 50; refine (l01Copied_any (arr f f.H f.W (turnAt f) k) f hf k hlt _ (turnAt f k) hq1 (by omega) ob w.heap.size hne.out _ (hM.out.at 2 rfl) (hM.out.at 0 rfl)).mono ?_; rintro e w2 ⟨⟨_, rfl⟩, rfl⟩))
          go_roundw
          case rel => exact ⟨k + 1, by omega, by go_num, M4⟩
          case measure => simp [intOf]; omega
        | false =>
          go_wp2_with ((go_at_call 28; refine (l01Is_any (arr f f.H f.W (turnAt f) k) k ob _ H8.out.2 H8.out.1 (hM.out.at 2 rfl)).mono ?_; rintro e w' ⟨rfl, rfl⟩; rw [show isCell (arr f f.H f.W (turnAt f) k) k = false from hc]))
          go_roundw
          case rel => exact ⟨k + 1, by omega, by go_num, by rw [← arr_no hc]; exact hM⟩
          case measure => simp [intOf]; omega
      · obtain rfl : k = 100 := by omega
        have M5 := hM.out.row 1 rfl (fcells (arr f f.H f.W (turnAt f) 100))
        go_wp2_with (first
          | (refine wpList_load_part rfl 27 _ rfl ob 0 rfl (fcells (arr f f.H f.W (turnAt f) 100)) _ (hM.out.at 2 rfl).whole Tryd.underlying27 rfl (by rw [fcells_size]; exact sizeFd) ?_)
          | (refine wpList_store_row rfl 27 _ _ rfl (w.heap.size + 1) (fcells (arr f f.H f.W (turnAt f) 100)) rfl rfl 27 _ (hM.out.at 1 rfl) (by rw [fcells_size]; exact sizeFd) (by rw [hz.out, fcells_size]) (fcells_one _) ?_))
        exact bodyPost_ret (results_row_tmp rfl _ _ (w.heap.size + 1) 27 _ _ _ rfl (M5.at 1 rfl) Tryd.underlying27 rfl (by rw [fcells_size]; exact sizeFd)) rfl ⟨rfl, M5.below⟩

end Go.Proofs.YtljlbdnlcibhfaaDoor
