/-
  The laws' helpers on visits.
-/
import Derived.Test.YtaioflkonpommaaDoorCoreB
import Derived.Outline
import Derived.Deep.DeepCutAuto
import Derived.Laws.MakeOwn
import Derived.OwnWalk
namespace Go.Proofs.YtaioflkonpommaaDoor
open Go Go.RowKit

abbrev ksVisit : List IntKind := [.i8, .i16, .i16]
/-- A visit's value. -/
abbrev vVisit (a : Nat → Int) : Value := .agg #[.int .i8 (a 0), .int .i16 (a 1), .int .i16 (a 2)]
theorem vVisit_eq (F : Nat → Nat → Int) (i : Nat) : Value.agg (srow ksVisit F i) = vVisit (F i) := rfl
theorem toVisit_any (a : Nat → Int) (w : World) : Calls Tryd.prog 61 #[vVisit a] w fun e w' => e = .returned (vVisit a) ∧ Below w.heap.size w w' := by
  go_enter Tryd.func61, Tryd.ntmps61
  go_wp2_with fail
  exact bodyPost_ret (v := vVisit a) (by simp [results, Tryd.results61, go_sem]) rfl ⟨rfl, (((Below.refl _ _).alloc (Nat.le_refl _) _).alloc (by simp) _).alloc (by simp; omega) _⟩
theorem toVisit_row (F : Nat → Nat → Int) (i : Nat) (w : World) : Calls Tryd.prog 61 #[.agg (srow ksVisit F i)] w fun e w' => e = .returned (.agg (srow ksVisit F i)) ∧ Below w.heap.size w w' := toVisit_any (F i) w
set_option maxHeartbeats 1000000 in
theorem toVisitS_any (n : Nat) (hn : n ≤ 2 ^ 40) (F : Nat → Nat → Int) (b o c : Nat) (w : World) (I : InS w b o n ksVisit F) : Calls Tryd.prog 34 #[.slice (some ⟨b, o, none⟩) n c] w fun e w' => ∃ b', e = .returned (.slice (some ⟨b', 0, none⟩) n n) ∧ w.heap.size ≤ b' ∧ Blk w' b' (scells ksVisit n F) 32 ∧ Below w.heap.size w w' := by
  go_enter Tryd.func34, Tryd.ntmps34
  have HI := Lib.hid I
  clear I
  go_wp2_with (refine wpList_make (BY := 6) rfl 43 32 _ rfl n rfl ksVisit Tryd.underlying43 (by kernel_rfl) (by kernel_rfl) (by omega) (by omega) ?_)
  obtain ⟨W, hW, M⟩ := open1 w (scells ksVisit n (fun _ _ => 0)) 32
  rw [hW]; clear hW
  go_loopw [4] (fun i wr => ∃ k : Nat, k ≤ n ∧ i = .int .i64 k ∧ Mem w wr [⟨w.heap.size, scells ksVisit n (fun p => if p < k then F p else fun _ => 0), 32⟩]) (fun i _ => n - (intOf i).toNat)
  case atStart => exact ⟨0, by omega, rfl, by simpa using M⟩
  case round =>
    clear M
    obtain ⟨k, hk, rfl, M⟩ := hrel
    by_cases hlt : k < n
    · have hr := HI.out.elem (by decide) M.below hlt
      go_wp2_with (first
        | (refine wpList_load_part rfl 101 _ rfl _ _ rfl (srow ksVisit F k) _ hr Tryd.underlying101 rfl (by rw [srow_size]; kernel_rfl) ?_)
        | (go_at_call 61; refine (toVisit_row F k _).mono ?_; rintro e W2 ⟨rfl, hb⟩; have M2 := M.call hb; clear M hb hr; have hth := Lib.hid ((M2.at 0 rfl).elemThere hlt))
        | (refine wpList_store_mid rfl 32 _ _ rfl _ _ _ rfl rfl ?s1 ?s2 ?s3 ?_))
      case s1 => rw [srow_size]; exact hth.out
      case s2 => rw [srow_size]; kernel_rfl
      case s3 => exact srow_one _ _ _
      go_roundw
      case rel =>
        refine ⟨k + 1, by omega, by go_num, ?_⟩
        have h4 := M2.cells 0 (k * ksVisit.length) (srow ksVisit F k).toList rfl _ ((M2.at 0 rfl).setElem hlt)
        have e : scells ksVisit n (fun p => if p = k then F k else if p < k then F p else fun _ => 0) = scells ksVisit n (fun p => if p < k + 1 then F p else fun _ => 0) := scells_congr (fun p j hp _ => by
          by_cases e1 : p = k
          · subst e1; simp
          · by_cases e2 : p < k
            · rw [if_neg e1, if_pos e2, if_pos (by omega)]
            · rw [if_neg e1, if_neg e2, if_neg (by omega)])
        rw [e] at h4
        exact h4
      case measure => simp [intOf]; omega
    · have e : scells ksVisit n (fun p => if p < k then F p else fun _ => 0) = scells ksVisit n F := scells_congr (fun p j hp _ => by rw [if_pos (by omega)])
      rw [e] at M; clear e
      go_wp2_with fail
      go_ret
      exact ⟨_, rfl, Nat.le_refl _, M.at 0 rfl, M.below⟩
end Go.Proofs.YtaioflkonpommaaDoor
