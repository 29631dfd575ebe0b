/-
  The list of a set, ascending, as the model makes it: a slice of its own.
-/
import Derived.Test.YtcaeihhdapghkaaDoorSets
import Derived.Below
import Derived.Lib.Hide
import Derived.OwnWalk
namespace Go.Proofs.YtcaeihhdapghkaaDoor
open Go Go.RowKit

def hlist (f : Nat → Int) (k : Nat) : List Int := ((List.range k).filter (fun c : Nat => hasC f (c : Int))).map (fun c : Nat => (c : Int))
theorem hlist_hit {f : Nat → Int} {k : Nat} (h : hasC f (k : Int) = true) : hlist f (k + 1) = hlist f k ++ [(k : Int)] := by
  simp [hlist, List.range_succ, List.filter_append, h]
theorem hlist_miss {f : Nat → Int} {k : Nat} (h : hasC f (k : Int) = false) : hlist f (k + 1) = hlist f k := by
  simp [hlist, List.range_succ, List.filter_append, h]
theorem hlist_le (f : Nat → Int) (k : Nat) : (hlist f k).length ≤ k := by
  have := List.length_filter_le (fun c : Nat => hasC f (c : Int)) (List.range k)
  simpa [hlist] using this
theorem infoI64 : (Tryd.prog.info? 2).map (fun i => (i.zero, i.size, i.bytes)) = some (some (.int .i64 0), 1, 8) := by kernel_rfl
theorem list_keep {f : Nat → Int} {k n₀ : Nat} {w wr w1 : World} {v v' : Value} {o : Obj} (h : hasC f (k : Int) = true) (hn : n₀ = w.heap.size)
    (hown : wr.ownsRow n₀ 2 1 v (hlist f k).length ((hlist f k).map (Value.int .i64))) (hnx : Below n₀ w wr)
    (hown' : w1.ownsRow n₀ 2 1 v' ((hlist f k).length + 1) ((hlist f k).map (Value.int .i64) ++ [.int .i64 k])) (hgrow : (wr.alloc o).grownBy w1 v.ownBlock) :
    w1.ownsRow n₀ 2 1 v' (hlist f (k + 1)).length ((hlist f (k + 1)).map (Value.int .i64)) ∧ Below n₀ w w1 := by
  have hsz := hnx.size
  refine ⟨by rw [hlist_hit h]; simpa using hown', (hnx.alloc (by omega) o).grown hgrow (by simp; omega) (fun j hj => (hown.lt j hj).1)⟩

set_option maxHeartbeats 1600000 in
set_option maxRecDepth 100000 in
theorem l01List_any (f : Nat → Int) (b : Nat) (w : World) (B : Blk w b (acells .u64 2 f) 34) :
    Calls Tryd.prog 69 #[.pointer (some ⟨b, 0, none⟩)] w fun e w' => ∃ v, e = .returned v ∧
      w'.ownsRow w.heap.size 2 1 v (hlist f 100).length ((hlist f 100).map (Value.int .i64)) ∧ Below w.heap.size w w' := by
  obtain ⟨i0, hi, hz0, hz1, hz2⟩ := info_parts infoI64
  go_enter Tryd.func69, Tryd.ntmps69
  go_wp2
  go_loopw [3, 4] (fun v i wr => ∃ k : Nat, k ≤ 100 ∧ i = .int .i64 k ∧ wr.ownsRow w.heap.size 2 1 v (hlist f k).length ((hlist f k).map (Value.int .i64)) ∧ Below w.heap.size w wr)
    (fun _ i _ => 100 - (intOf i).toNat)
  case atStart =>
    refine ⟨0, Nat.zero_le _, rfl, ?_, ?_⟩
    · exact ⟨by simp [hlist], .inr ⟨w.heap.size, 0, #[], rfl, Nat.le_refl _, Blk.new _ _ _, Nat.le_refl _, by unfold maxLen; omega, rfl, by simp [hlist]⟩⟩
    · exact (Below.refl _ _).alloc (Nat.le_refl _) _
  case round =>
    obtain ⟨k, hk, rfl, hown, hnx⟩ := hrel
    have hle := hlist_le f k
    have hBl := Lib.hid (B.later hnx)
    cases hc : hasC f (k : Int) with
    | true =>
      go_wp2_with (first
        | (at_builtin; refine wpList_append_own _ rfl _ _ 39 rfl w.heap.size 2 i0 (.int .i64 0) 1 8 Tryd.underlying39 hi hz0 hz1 hz2 rfl (by decide) _ _ _ rfl (hown.alloc _) ⟨wr.heap.size, 0, none⟩ 1 1 [.int .i64 k] rfl rfl ?c1 ?c2 ?c3 ?c4 ?c5 ?_)
        | (go_at_call 53; refine (l01Has_any f _ b _ hBl.out).mono ?_; rintro e w' ⟨rfl, rfl⟩; rw [hc]))
      case c1 =>
        intro j u hj
        match j, hj with
        | 0, hj => simp at hj; subst hj; simp [Addr.add]
      case c2 => intro u hu; simp at hu; subst hu; rfl
      case c3 => unfold maxLen; omega
      case c4 => omega
      case c5 => have := hnx.size; simp; omega
      · intro v' w1 hown' hgrow _
        have hlt : k < 100 := by first | assumption | omega
        have R := list_keep hc rfl hown hnx hown' hgrow
        clear hown' hgrow hown hnx hBl
        go_wp2
        go_roundw
        case rel => exact ⟨k + 1, by omega, by simp, R.1, R.2⟩
        case measure => simp [intOf]; omega
      · have hk' : k = 100 := by omega
        subst hk'
        go_ret
        exact ⟨_, rfl, hown, hnx⟩
    | false =>
      go_wp2_with (first
        | (go_at_call 53; refine (l01Has_any f _ b _ hBl.out).mono ?_; rintro e w' ⟨rfl, rfl⟩; rw [hc]))
      · have hlt : k < 100 := by first | assumption | omega
        go_roundw
        case rel => exact ⟨k + 1, by omega, by simp, by rw [hlist_miss hc]; exact hown, hnx⟩
        case measure => simp [intOf]; omega
      · have hk' : k = 100 := by omega
        subst hk'
        go_ret
        exact ⟨_, rfl, hown, hnx⟩
end Go.Proofs.YtcaeihhdapghkaaDoor
