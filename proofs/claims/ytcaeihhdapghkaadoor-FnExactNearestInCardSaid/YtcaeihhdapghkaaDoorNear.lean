/-
  NearestIn: the model's, the program's.
-/
import Derived.Test.YtcaeihhdapghkaaDoorBestI
import Derived.Test.YtcaeihhdapghkaaDoorAt
namespace Go.Proofs.YtcaeihhdapghkaaDoor
open Go Go.RowKit

def nearCode (f : Fd) (c : Int) (g : Nat → Int) : Int := if asked f c true = 0 then (if nearest f c.toNat g 100 = -1 then 6 else 0) else asked f c true
def nearCell (f : Fd) (c : Int) (g : Nat → Int) : Int := if asked f c true = 0 then (if nearest f c.toNat g 100 = -1 then 0 else nearest f c.toNat g 100) else 0
def nearSq (f : Fd) (c : Int) (g : Nat → Int) : Int := if asked f c true = 0 then (if nearest f c.toNat g 100 = -1 then 0 else sq c (nearest f c.toNat g 100)) else 0
theorem near_bad {f : Fd} {c : Int} {g : Nat → Int} (h : asked f c true ≠ 0) : nearCode f c g = asked f c true ∧ nearCell f c g = 0 ∧ nearSq f c g = 0 := by
  unfold nearCode nearCell nearSq; rw [if_neg h, if_neg h, if_neg h]; exact ⟨rfl, rfl, rfl⟩
theorem near_none {f : Fd} {c : Nat} {g : Nat → Int} (h : asked f (c : Int) true = 0) (h1 : nearest f c g 100 = -1) : nearCode f c g = 6 ∧ nearCell f c g = 0 ∧ nearSq f c g = 0 := by
  unfold nearCode nearCell nearSq; rw [Int.toNat_natCast, if_pos h, if_pos h, if_pos h, if_pos h1, if_pos h1, if_pos h1]; exact ⟨rfl, rfl, rfl⟩
theorem near_some {f : Fd} {c p : Nat} {g : Nat → Int} (h : asked f (c : Int) true = 0) (h1 : nearest f c g 100 = (p : Int)) : nearCode f c g = 0 ∧ nearCell f c g = (p : Int) ∧ nearSq f c g = sq (c : Int) (p : Int) := by
  have h2 : ¬ (nearest f c g 100 = -1) := by omega
  unfold nearCode nearCell nearSq; rw [Int.toNat_natCast, if_pos h, if_pos h, if_pos h, if_neg h2, if_neg h2, if_neg h2, h1]; exact ⟨rfl, rfl, rfl⟩
theorem near_cases (f : Fd) (c : Nat) (g : Nat → Int) : nearest f c g 100 = -1 ∨ ∃ p : Nat, nearest f c g 100 = (p : Int) ∧ p < 100 := by
  rcases best_cases (inSet f g) (fun k => -sq (c : Int) (k : Int)) 100 with h | ⟨p, h, h2, _⟩
  · exact .inl h
  · exact .inr ⟨p, h, h2⟩
set_option maxRecDepth 100000 in
set_option maxHeartbeats 2000000 in
theorem specNearestIn (f : Fd) (hf : f.Wf) (c : Int) (g : Nat → Int) (w : World) : Calls Tryd.prog 7 #[.agg (fcells f), .int .i64 c, .agg (acells .u64 2 g)] w fun e w' => e = .returned (.tuple #[.int .i64 (nearCell f c g), .int .i64 (nearSq f c g), .int .i64 (nearCode f c g)]) ∧ Below w.heap.size w w' := by
  cases h : (asked f c true == 0) with
  | false =>
    have h0 : asked f c true ≠ 0 := by simpa using h
    have h' : (asked f c true != 0) = true := by simpa using h
    obtain ⟨e1, e2, e3⟩ := near_bad (g := g) h0
    rw [e1, e2, e3]; clear e1 e2 e3 h0
    go_enter Tryd.func7, Tryd.ntmps7
    go_upto_region 1 with (fail)
    obtain ⟨W, hW, M⟩ := open2 w (fcells f) 32 (acells .u64 2 g) 34
    rw [hW]; clear hW
    go_wp2_with (first
      | (go_at_call 41; refine (l01Asked_any f hf c _ _ _ (M.at 0 rfl)).mono ?_; rintro e w' ⟨rfl, rfl⟩))
    exact bodyPost_ret (v := .tuple #[.int .i64 0, .int .i64 0, .int .i64 (asked f c true)]) (by simp [results, Tryd.results7, go_sem]) rfl ⟨rfl, M.below⟩
  | true =>
    have h0 : asked f c true = 0 := by simpa using h
    obtain ⟨hok, hc, -⟩ := asked_0 h0
    obtain ⟨n, hn, rfl⟩ := cell_nat hc
    clear h
    rcases near_cases f n g with h1 | ⟨p, h1, hp⟩
    · obtain ⟨e1, e2, e3⟩ := near_none (g := g) h0 h1
      rw [e1, e2, e3]; clear e1 e2 e3
      go_enter Tryd.func7, Tryd.ntmps7
      go_upto_region 1 with (fail)
      obtain ⟨W, hW, M⟩ := open2 w (fcells f) 32 (acells .u64 2 g) 34
      rw [hW]; clear hW
      go_wp2_with (first
        | (go_at_call 41; refine (l01Asked_any f hf n _ _ _ (M.at 0 rfl)).mono ?_; rintro e w' ⟨rfl, rfl⟩; rw [h0])
        | (go_at_call 42; refine (l01Nearest_any f hf n hn g _ _ _ (M.at 0 rfl) (M.at 1 rfl)).mono ?_; rintro e w' ⟨rfl, rfl⟩; rw [h1]))
      exact bodyPost_ret (v := .tuple #[.int .i64 0, .int .i64 0, .int .i64 6]) (by simp [results, Tryd.results7, go_sem]) rfl ⟨rfl, M.below⟩
    · obtain ⟨e1, e2, e3⟩ := near_some (g := g) h0 h1
      rw [e1, e2, e3]; clear e1 e2 e3
      have hp0 : ¬ ((p : Int) < 0) := by omega
      go_enter Tryd.func7, Tryd.ntmps7
      go_upto_region 1 with (fail)
      obtain ⟨W, hW, M⟩ := open2 w (fcells f) 32 (acells .u64 2 g) 34
      rw [hW]; clear hW
      go_wp2_with (first
        | (go_at_call 41; refine (l01Asked_any f hf n _ _ _ (M.at 0 rfl)).mono ?_; rintro e w' ⟨rfl, rfl⟩; rw [h0])
        | (go_at_call 42; refine (l01Nearest_any f hf n hn g _ _ _ (M.at 0 rfl) (M.at 1 rfl)).mono ?_; rintro e w' ⟨rfl, rfl⟩; rw [h1])
        | (go_at_call 43; refine (l01Square_any n p hn hp _).mono ?_; rintro e w' ⟨rfl, rfl⟩))
      exact bodyPost_ret (v := .tuple #[.int .i64 p, .int .i64 (sq (n : Int) (p : Int)), .int .i64 0]) (by simp [results, Tryd.results7, go_sem]) rfl ⟨rfl, M.below⟩

set_option maxRecDepth 100000 in
theorem near_closure (c k : Nat) (hc : c < 100) (hk : k < 100) (pc : Nat) (w : World) (h1 : w.cell? ⟨pc, 0, none⟩ = some (.int .i64 c)) :
    Calls Tryd.prog 49 #[.int .i64 k, .pointer (some ⟨pc, 0, none⟩)] w fun e w' => e = .returned (.int .i64 (-sq (c : Int) (k : Int))) ∧ Below w.heap.size w w' := by
  obtain ⟨b1, b2⟩ := sq_part (x := (c : Int) % 10 - k % 10) (by omega) (by omega)
  obtain ⟨b3, b4⟩ := sq_part (x := (c : Int) / 10 - k / 10) (by omega) (by omega)
  have hs : 0 ≤ sq (c : Int) (k : Int) ∧ sq (c : Int) (k : Int) ≤ 162 := by unfold sq; omega
  obtain ⟨hs1, hs2⟩ := hs
  clear b1 b2 b3 b4
  go_enter Tryd.func49, Tryd.ntmps49
  go_wp2_with (first
    | (go_at_call 50; refine (squareBetween_any c k hc hk _).mono ?_; rintro e w' ⟨rfl, rfl⟩))
  go_ret
  exact ⟨rfl, Below.refl _ _⟩

set_option maxRecDepth 100000 in
set_option maxHeartbeats 4000000 in
theorem implNearestIn (f : Fd) (hf : f.Wf) (c : Int) (hc1 : -9223372036854775808 ≤ c) (hc2 : c ≤ 9223372036854775807) (g : Nat → Int) (A : Nat → Addr) (w : World) (S0 : Sents w A) : Calls Tryd.prog 10 #[.agg (fcells f), .int .i64 c, .agg (acells .u64 2 g)] w fun e w' => e = .returned (.tuple #[.int .i64 (nearCell f c g), .int .i64 (nearSq f c g), .int .i64 (nearCode f c g)]) ∧ Below w.heap.size w w' := by
  have S : Hid (Sents w A) := Lib.hid S0
  clear S0
  have hif := isIfaceErr
  cases hok : okF f with
  | false =>
    have ha : asked f c true = 1 := by simp [asked, hok]
    obtain ⟨e1, e2, e3⟩ := near_bad (f := f) (c := c) (g := g) (by omega)
    rw [e1, e2, e3, ha]; clear e1 e2 e3 ha
    go_enter Tryd.func10, Tryd.ntmps10
    go_upto_region 1 with (fail)
    obtain ⟨W, hW, M⟩ := open3 w (fcells f) 32 #[.int .i64 c] 2 (acells .u64 2 g) 34
    rw [hW]; clear hW
    have cc := (M.at 1 rfl).cell (i := 0) rfl
    go_wp2_with (first
      | (refine wpList_load_part rfl 32 _ rfl w.heap.size 0 rfl (fcells f) _ (M.at 0 rfl).whole Tryd.underlying32 rfl (by rw [fcells_size]; exact sizeFd) ?_)
      | (go_at_call 46; refine (checkCells_bad f hf hok A _ _ (S.out.later (M.alloc _ _).below)).mono ?_; rintro e W2 ⟨rfl, hb⟩; have M2 := (M.alloc _ _).call hb; clear hb)
      | (go_at_call 47; refine (codeOf_err A 1 (by omega) (by omega) _ (S.out.later M2.below)).mono ?_; rintro e W3 ⟨rfl, rfl⟩))
    exact bodyPost_ret (v := .tuple #[.int .i64 0, .int .i64 0, .int .i64 1]) (by simp [results, Tryd.results10, go_sem]) rfl ⟨rfl, M2.below⟩
  | true =>
    cases hc : isCell f c with
    | false =>
      have ha : asked f c true = 2 := by simp [asked, hok, hc]
      have hal : allTo 1 (fun i => isCell f ((fun _ => c) i)) = false := allTo_false (i := 0) (by omega) hc
      obtain ⟨e1, e2, e3⟩ := near_bad (f := f) (c := c) (g := g) (by omega)
      rw [e1, e2, e3, ha]; clear e1 e2 e3 ha
      go_enter Tryd.func10, Tryd.ntmps10
      go_upto_region 1 with (fail)
      obtain ⟨W, hW, M⟩ := open3 w (fcells f) 32 #[.int .i64 c] 2 (acells .u64 2 g) 34
      rw [hW]; clear hW
      have cc := (M.at 1 rfl).cell (i := 0) rfl
      go_wp2_with (first
        | (refine wpList_load_part rfl 32 _ rfl w.heap.size 0 rfl (fcells f) _ (M.at 0 rfl).whole Tryd.underlying32 rfl (by rw [fcells_size]; exact sizeFd) ?_)
        | (go_at_call 46; refine (checkCells_ok f hf hok 1 (by omega) (fun _ => c) (fun _ _ => ⟨hc1, hc2⟩) A _ _ _ (Blk.new _ _ _) (S.out.later (M.alloc _ _).below)).mono ?_; rintro e W2 ⟨rfl, hb⟩; rw [hal, errIf_false]; have M2 := (M.alloc _ _).call hb; clear hb)
        | (go_at_call 47; refine (codeOf_err A 2 (by omega) (by omega) _ (S.out.later M2.below)).mono ?_; rintro e W3 ⟨rfl, rfl⟩))
      exact bodyPost_ret (v := .tuple #[.int .i64 0, .int .i64 0, .int .i64 2]) (by simp [results, Tryd.results10, go_sem]) rfl ⟨rfl, M2.below⟩
    | true =>
      have ha : asked f c true = 0 := by simp [asked, hok, hc]
      have hal : allTo 1 (fun i => isCell f ((fun _ => c) i)) = true := allTo_iff.2 (fun i hi => hc)
      obtain ⟨n, hn, rfl⟩ := cell_nat hc
      rcases near_cases f n g with h1 | ⟨p, h1, hp⟩
      · obtain ⟨e1, e2, e3⟩ := near_none (g := g) ha h1
        rw [e1, e2, e3]; clear e1 e2 e3
        go_enter Tryd.func10, Tryd.ntmps10
        go_upto_region 1 with (fail)
        obtain ⟨W, hW, M⟩ := open3 w (fcells f) 32 #[.int .i64 (n : Int)] 2 (acells .u64 2 g) 34
        rw [hW]; clear hW
        have cc := (M.at 1 rfl).cell (i := 0) rfl
        go_wp2_with (first
          | (refine wpList_load_part rfl 32 _ rfl w.heap.size 0 rfl (fcells f) _ (M.at 0 rfl).whole Tryd.underlying32 rfl (by rw [fcells_size]; exact sizeFd) ?_)
          | (go_at_call 46; refine (checkCells_ok f hf hok 1 (by omega) (fun _ => (n : Int)) (fun _ _ => ⟨hc1, hc2⟩) A _ _ _ (Blk.new _ _ _) (S.out.later (M.alloc _ _).below)).mono ?_; rintro e W2 ⟨rfl, hb⟩; rw [hal, errIf_true]; have M2 := (M.alloc _ _).call hb; clear hb; have cs := (M2.at 1 rfl).cell (i := 0) rfl)
          | (refine wpList_load_part rfl 32 _ rfl w.heap.size 0 rfl (fcells f) _ (M2.at 0 rfl).whole Tryd.underlying32 rfl (by rw [fcells_size]; exact sizeFd) ?_)
          | (refine wpList_load_part rfl 34 _ rfl (w.heap.size + 1 + 1) 0 rfl (acells .u64 2 g) _ (M2.at 2 rfl).whole Tryd.underlying34 rfl (by rw [acells_size]; exact sizeC) ?_)
          | (go_at_call 48; refine (bestIn_none f hok g 49 #[.pointer (some ⟨w.heap.size + 1, 0, none⟩)] (fun k => -sq (n : Int) (k : Int)) h1 A _ (S.out.later M2.below)).mono ?_; rintro e W5 ⟨rfl, hb5⟩; have M5 := M2.call hb5; clear hb5)
          | (go_at_call 47; refine (codeOf_err A 6 (by omega) (by omega) _ (S.out.later M5.below)).mono ?_; rintro e W3 ⟨rfl, rfl⟩))
        exact bodyPost_ret (v := .tuple #[.int .i64 0, .int .i64 0, .int .i64 6]) (by simp [results, Tryd.results10, go_sem]) rfl ⟨rfl, M5.below⟩
      · obtain ⟨e1, e2, e3⟩ := near_some (g := g) ha h1
        rw [e1, e2, e3]; clear e1 e2 e3
        go_enter Tryd.func10, Tryd.ntmps10
        go_upto_region 1 with (fail)
        obtain ⟨W, hW, M⟩ := open3 w (fcells f) 32 #[.int .i64 (n : Int)] 2 (acells .u64 2 g) 34
        rw [hW]; clear hW
        have cc := (M.at 1 rfl).cell (i := 0) rfl
        go_wp2_with (first
          | (refine wpList_load_part rfl 32 _ rfl w.heap.size 0 rfl (fcells f) _ (M.at 0 rfl).whole Tryd.underlying32 rfl (by rw [fcells_size]; exact sizeFd) ?_)
          | (go_at_call 46; refine (checkCells_ok f hf hok 1 (by omega) (fun _ => (n : Int)) (fun _ _ => ⟨hc1, hc2⟩) A _ _ _ (Blk.new _ _ _) (S.out.later (M.alloc _ _).below)).mono ?_; rintro e W2 ⟨rfl, hb⟩; rw [hal, errIf_true]; have M2 := (M.alloc _ _).call hb; clear hb; have cs := (M2.at 1 rfl).cell (i := 0) rfl)
          | (refine wpList_load_part rfl 32 _ rfl w.heap.size 0 rfl (fcells f) _ (M2.at 0 rfl).whole Tryd.underlying32 rfl (by rw [fcells_size]; exact sizeFd) ?_)
          | (refine wpList_load_part rfl 34 _ rfl (w.heap.size + 1 + 1) 0 rfl (acells .u64 2 g) _ (M2.at 2 rfl).whole Tryd.underlying34 rfl (by rw [acells_size]; exact sizeC) ?_)
          | (go_at_call 48; refine (bestIn_some f hok g 49 (w.heap.size + 1) (fun k => -sq (n : Int) (k : Int)) p h1 (fun w' => w'.cell? ⟨w.heap.size + 1, 0, none⟩ = some (.int .i64 (n : Int))) (fun _ _ h hb => cell_later h hb) (fun k w' hk h => near_closure n k hn (isCell_lt hk) _ w' h) (enters_of Tryd.func49 (by kernel_rfl) rfl) _ ((M2.at 1 rfl).cell (i := 0) rfl)).mono ?_; rintro e W5 ⟨rfl, hb5⟩; have M5 := M2.call hb5; clear hb5; have cs5 := (M5.at 1 rfl).cell (i := 0) rfl)
          | (go_at_call 50; refine (squareBetween_any n p hn hp _).mono ?_; rintro e w' ⟨rfl, rfl⟩))
        exact bodyPost_ret (v := .tuple #[.int .i64 p, .int .i64 (sq (n : Int) (p : Int)), .int .i64 0]) (by simp [results, Tryd.results10, go_sem]) rfl ⟨rfl, M5.below⟩
end Go.Proofs.YtcaeihhdapghkaaDoor
