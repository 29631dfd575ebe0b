/-
  Cells that are apart: the model's.
-/
import Derived.Test.YtidddepdjokjcaaDoorCov
import Derived.Test.YtidddepdjokjcaaDoorCovC
import Derived.Test.YtidddepdjokjcaaDoorSetB
import Derived.Test.YtidddepdjokjcaaDoorLstN
import Derived.Maps.AppendAt
namespace Go.Proofs.YtidddepdjokjcaaDoor
open Go Go.RowKit

/-- No number is in both sets. -/
def dj (A B : Nat → Int) : Bool := allTo 100 (fun k => !(hasC A (k : Int) && hasC B (k : Int)))
/-- The cells that cover a cell. -/
def cS (f : Fd) (x y : Int) (c : Int) : Nat → Int := cvrS f c.toNat x y
theorem cS_has (f : Fd) (x y : Int) (c : Nat) {k : Nat} (hk : k < 100) : hasC (cS f x y (c : Int)) (k : Int) = (isCell f (k : Int) && cvrQ f c x y k) := by
  unfold cS cvrS
  rw [Int.toNat_natCast, hasC_want f _ hk, decide_eq_true hk, Bool.true_and]
theorem l03Game_any (f : Fd) (hf : f.Wf) (x y : Int) (b : Nat) (w : World) (B : Blk w b (fcells f) 33) :
    Calls Tryd.prog 18 #[.pointer (some ⟨b, 0, none⟩), .int .i64 x, .int .i64 y] w fun e w' => e = .returned (.int .i64 (gmCode f (inB x 1 1000 && inB y 1 1000))) ∧ w = w' := by
  obtain ⟨q, hq⟩ : ∃ q, (inB x 1 1000 && inB y 1 1000) = q := ⟨_, rfl⟩
  have HQ := Lib.hid hq
  have HB := Lib.hid B
  rw [hq]
  clear hq B
  cases ho : okF f with
  | false =>
    rw [gm_no ho]
    go_enter Tryd.func18, Tryd.ntmps18
    go_wp2_with (go_at_call 39; refine (l01Ok_any f hf b _ HB.out).mono ?_; rintro e w1 ⟨rfl, rfl⟩; rw [ho])
    go_ret
    exact ⟨rfl, rfl⟩
  | true =>
    have HO := Lib.hid ho
    have e : gmCode f q = if q then 0 else 2 := by unfold gmCode; rw [ho]; rfl
    rw [e]
    clear e ho
    cases q with
    | false =>
      go_enter Tryd.func18, Tryd.ntmps18
      go_wp2_with (first
        | (go_at_call 39; refine (l01Ok_any f hf b _ HB.out).mono ?_; rintro e w1 ⟨rfl, rfl⟩; rw [HO.out])
        | (go_at_call 40; refine (l03Numbers_any x y _).mono ?_; rintro e w1 ⟨rfl, rfl⟩; rw [HQ.out]))
      go_ret
      exact ⟨rfl, rfl⟩
    | true =>
      go_enter Tryd.func18, Tryd.ntmps18
      go_wp2_with (first
        | (go_at_call 39; refine (l01Ok_any f hf b _ HB.out).mono ?_; rintro e w1 ⟨rfl, rfl⟩; rw [HO.out])
        | (go_at_call 40; refine (l03Numbers_any x y _).mono ?_; rintro e w1 ⟨rfl, rfl⟩; rw [HQ.out]))
      go_ret
      exact ⟨rfl, rfl⟩
set_option maxRecDepth 100000 in
set_option maxHeartbeats 4000000 in
theorem l03Apart_any (f : Fd) (hf : f.Wf) (a : Nat) (ha : a < 100) (c : Nat) (hc : c < 100) (x y : Int) (hx : 1 ≤ x ∧ x ≤ 1000) (hy : 1 ≤ y ∧ y ≤ 1000) (b : Nat) (w : World) (B : Blk w b (fcells f) 33) :
    Calls Tryd.prog 31 #[.pointer (some ⟨b, 0, none⟩), .int .i64 (a : Int), .int .i64 (c : Int), .int .i64 x, .int .i64 y] w fun e w' => e = .returned (.bool (dj (cS f x y (a : Int)) (cS f x y (c : Int)))) ∧ w = w' := by
  have HA := Lib.hid (fun (k : Nat) (hk : k < 100) => l03Covers_any f hf k hk a ha x y hx hy b w B)
  have HC := Lib.hid (fun (k : Nat) (hk : k < 100) => l03Covers_any f hf k hk c hc x y hx hy b w B)
  have HSA := Lib.hid (fun (k : Nat) (hk : k < 100) => cS_has f x y a hk)
  have HSC := Lib.hid (fun (k : Nat) (hk : k < 100) => cS_has f x y c hk)
  generalize cS f x y (a : Int) = SA at HSA ⊢
  generalize cS f x y (c : Int) = SC at HSC ⊢
  clear B
  go_enter Tryd.func31, Tryd.ntmps31
  go_wp2_with fail
  have ok1 : True := trivial
  have ok2 : True := trivial
  go_loop [11] (fun i => ∃ k : Nat, k ≤ 100 ∧ i = .int .i64 k ∧ Hid (∀ j, j < k → (hasC SA (j : Int) && hasC SC (j : Int)) = false)) (fun i => 100 - (intOf i).toNat)
  case atStart => exact ⟨0, by omega, rfl, Lib.hid (fun j hj => absurd hj (by omega))⟩
  case round =>
    obtain ⟨k, hk, rfl, hall⟩ := hrel
    by_cases hlt : k < 100
    · have e1 := HSA.out k hlt
      have e2 := HSC.out k hlt
      obtain ⟨q1, hq1⟩ : ∃ q1, (isCell f (k : Int) && cvrQ f a x y k) = q1 := ⟨_, rfl⟩
      obtain ⟨q2, hq2⟩ : ∃ q2, (isCell f (k : Int) && cvrQ f c x y k) = q2 := ⟨_, rfl⟩
      have H1 := Lib.hid hq1
      have H2 := Lib.hid hq2
      rw [hq1] at e1
      rw [hq2] at e2
      have E1 := Lib.hid e1
      have E2 := Lib.hid e2
      clear e1 e2 hq1 hq2
      cases q1 with
      | false =>
        go_wp2_with (clear ok1; go_at_call 43; refine (HA.out k hlt).mono ?_; rintro e w1 ⟨rfl, rfl⟩; rw [H1.out])
        go_round
        case rel => exact ⟨k + 1, by omega, by go_num, Lib.hid (upto_succ hall.out (by rw [E1.out]; rfl))⟩
        case measure => simp [intOf]; omega
      | true =>
        cases q2 with
        | false =>
          go_wp2_with (first
            | (clear ok1; go_at_call 43; refine (HA.out k hlt).mono ?_; rintro e w1 ⟨rfl, rfl⟩; rw [H1.out])
            | (clear ok2; go_at_call 43; refine (HC.out k hlt).mono ?_; rintro e w1 ⟨rfl, rfl⟩; rw [H2.out]))
          go_round
          case rel => exact ⟨k + 1, by omega, by go_num, Lib.hid (upto_succ hall.out (by rw [E1.out, E2.out]; rfl))⟩
          case measure => simp [intOf]; omega
        | true =>
          have hd : Hid (dj SA SC = false) := Lib.hid (allTo_false hlt (by rw [E1.out, E2.out]; rfl))
          go_wp2_with (first
            | (clear ok1; go_at_call 43; refine (HA.out k hlt).mono ?_; rintro e w1 ⟨rfl, rfl⟩; rw [H1.out])
            | (clear ok2; go_at_call 43; refine (HC.out k hlt).mono ?_; rintro e w1 ⟨rfl, rfl⟩; rw [H2.out]))
          go_ret
          exact ⟨by rw [hd.out]; rfl, rfl⟩
    · obtain rfl : k = 100 := by omega
      have hd : Hid (dj SA SC = true) := Lib.hid (allTo_iff.2 (fun j hj => by rw [hall.out j hj]; rfl))
      go_wp2_with fail
      go_ret
      exact ⟨by rw [hd.out]; rfl, rfl⟩
/-- Is a cell apart from the first k of some? -/
def fineT (CS : Int → Nat → Int) (out : List Int) (c : Int) (k : Nat) : Bool := allTo k (fun i => dj (CS (out.getD i 0)) (CS c))
/-- The cells of a list that are taken. -/
def apT (CS : Int → Nat → Int) (L : List Int) : Nat → List Int
  | 0 => []
  | k + 1 => if fineT CS (apT CS L k) (L.getD k 0) (apT CS L k).length = true then apT CS L k ++ [L.getD k 0] else apT CS L k
theorem apT_yes {CS : Int → Nat → Int} {L : List Int} {k : Nat} (h : fineT CS (apT CS L k) (L.getD k 0) (apT CS L k).length = true) : apT CS L (k + 1) = apT CS L k ++ [L.getD k 0] := by rw [apT, if_pos h]
theorem apT_no {CS : Int → Nat → Int} {L : List Int} {k : Nat} (h : fineT CS (apT CS L k) (L.getD k 0) (apT CS L k).length = false) : apT CS L (k + 1) = apT CS L k := by rw [apT, if_neg (by rw [h]; decide)]
theorem apT_le (CS : Int → Nat → Int) (L : List Int) : ∀ k, (apT CS L k).length ≤ k
  | 0 => Nat.le_refl _
  | k + 1 => by
    have := apT_le CS L k
    unfold apT; split
    · simp; omega
    · omega
theorem apT_in {CS : Int → Nat → Int} {L : List Int} (hL : ∀ i, i < L.length → 0 ≤ L.getD i 0 ∧ L.getD i 0 ≤ 99) : ∀ k, k ≤ L.length → ∀ c ∈ apT CS L k, 0 ≤ c ∧ c ≤ 99
  | 0, _, c, hc => by simp [apT] at hc
  | k + 1, hk, c, hc => by
    have ih := apT_in (CS := CS) hL k (by omega)
    unfold apT at hc
    split at hc
    · rcases List.mem_append.1 hc with h | h
      · exact ih c h
      · rw [List.mem_singleton] at h; rw [h]; exact hL k (by omega)
    · exact ih c hc
theorem fineT_succ (CS : Int → Nat → Int) (out : List Int) (c : Int) (k : Nat) : fineT CS out c (k + 1) = (fineT CS out c k && dj (CS (out.getD k 0)) (CS c)) := by
  unfold fineT allTo
  rw [List.range_succ, List.all_append]
  simp
theorem owns_belowP {w w' : World} {base : Nat} {e : TypeId} {size : Nat} {v : Value} {n : Nat} {xs : List Value} (h : w.ownsRow base e size v n xs) (hb : Below w.heap.size w w') : w'.ownsRow base e size v n xs :=
  ⟨h.1, h.2.imp id fun ⟨g, cap, cur, h1, h2, h3, h4⟩ => ⟨g, cap, cur, h1, h2, (hb.block g (Array.getElem?_eq_some_iff.1 h3).1).trans h3, h4⟩⟩
def apL (f : Fd) (x y : Int) (t : Nat → Int) : List Int := apT (cS f x y) (hlist (tgS f t) 100) (hlist (tgS f t) 100).length
def apCode (f : Fd) (x y : Int) : Int := gmCode f (inB x 1 1000 && inB y 1 1000)
def apN (f : Fd) (x y : Int) (t : Nat → Int) : Nat := if apCode f x y = 0 then (apL f x y t).length else 0
def apG (f : Fd) (x y : Int) (t : Nat → Int) : Nat → Int := fun i => (apL f x y t).getD i 0
theorem apN_le (f : Fd) (x y : Int) (t : Nat → Int) : apN f x y t ≤ 2 ^ 40 := by
  have h1 := apT_le (cS f x y) (hlist (tgS f t) 100) (hlist (tgS f t) 100).length
  have h2 := hlist_le (tgS f t) 100
  unfold apN apL; split <;> omega
def ApP (f : Fd) (x y : Int) (t : Nat → Int) (w : World) (e : Ending) (w' : World) : Prop :=
  ∃ p c, e = .returned (.tuple #[.slice p (apN f x y t) c, .int .i64 (apCode f x y)]) ∧ NV w.heap.size w'.heap.size w' p (apN f x y t) (apG f x y t) ∧ NW w.heap.size w'.heap.size w' p (apN f x y t) ∧ Below w.heap.size w w'
theorem apP_bad {f : Fd} {x y : Int} {t : Nat → Int} {w w' : World} {c0 : Int} (hc : apCode f x y = c0) (hne : c0 ≠ 0) (p : Option Addr) (c : Nat) (hb : Below w.heap.size w w') : ApP f x y t w (.returned (.tuple #[.slice p 0 c, .int .i64 c0])) w' := by
  have hN : apN f x y t = 0 := by unfold apN; rw [hc, if_neg hne]
  exact ⟨p, c, by rw [hN, hc], .inl hN, .inl hN, hb⟩
theorem apP_ok {f : Fd} {x y : Int} {t : Nat → Int} {w w' : World} {v : Value} {l : List Int} (hc : apCode f x y = 0) (hl : apL f x y t = l) (lo : Nat) (hlo : w.heap.size ≤ lo) (ho : w'.ownsRow lo 2 1 v l.length (l.map (Value.int .i64))) (hb : Below w.heap.size w w') : ApP f x y t w (.returned (.tuple #[v, .int .i64 0])) w' := by
  have hN : apN f x y t = l.length := by unfold apN; rw [hc, if_pos rfl, hl]
  obtain ⟨p, c, rfl, V, X⟩ := Nown rfl ho
  exact ⟨p, c, by rw [hN, hc], by rw [hN]; unfold apG; rw [hl]; exact V.mono hlo (Nat.le_refl _), by rw [hN]; exact X.mono hlo (Nat.le_refl _), hb⟩
theorem InI.grownA {w w' : World} {b o n : Nat} {g : Nat → Int} {row : Option Nat} (h : InI w b o n g) (hg : w.grownBy w' row) (hne : some b ≠ row) : InI w' b o n g := fun i hi => by
  have h1 := h i hi
  have hlt := World.block_lt_of_cell? _ _ h1
  have e : w'.heap[b]? = w.heap[b]? := hg.block b hlt hne
  unfold World.cell? at h1 ⊢
  rw [e]; exact h1
theorem own_outA {W : World} {base : Nat} {e : TypeId} {size : Nat} {v : Value} {k : Nat} {xs : List Value} (h : W.ownsRow base e size v k xs) : ∃ p c, v = .slice p k c := by
  rcases h.2 with ⟨rfl, h0⟩ | ⟨g, cap, _, rfl, _⟩
  · exact ⟨none, 0, by rw [h0]⟩
  · exact ⟨_, cap, rfl⟩
theorem hlistA_in {g : Nat → Int} {i : Nat} (hi : i < (hlist g 100).length) : 0 ≤ (hlist g 100).getD i 0 ∧ (hlist g 100).getD i 0 ≤ 99 := by
  have hm : (hlist g 100).getD i 0 ∈ hlist g 100 := by
    simp [List.getD, List.getElem?_eq_getElem hi]
  simp only [hlist, List.mem_map, List.mem_filter, List.mem_range] at hm
  obtain ⟨c, ⟨h1, _⟩, h2⟩ := hm
  rw [show (hlist g 100).getD i 0 = (c : Int) from h2.symm]
  omega
theorem getD_mem {l : List Int} {i : Nat} (hi : i < l.length) : l.getD i 0 ∈ l := by simp [List.getD, List.getElem?_eq_getElem hi]
set_option maxRecDepth 100000 in
set_option maxHeartbeats 8000000 in
theorem specApartCells (f : Fd) (hf : f.Wf) (x y : Int) (t : Nat → Int) (w : World) : Calls Tryd.prog 12 #[.agg (fcells f), .int .i64 x, .int .i64 y, .agg (acells .u64 2 t)] w (ApP f x y t w) := by
  obtain ⟨q, hq⟩ : ∃ q, (inB x 1 1000 && inB y 1 1000) = q := ⟨_, rfl⟩
  have hcode : apCode f x y = gmCode f q := by rw [← hq]; rfl
  have HG := Lib.hid (fun (b : Nat) (w : World) (B : Blk w b (fcells f) 33) => l03Game_any f hf x y b w B)
  rw [hq] at HG
  have bad : ∀ k : Int, k ≠ 0 → gmCode f q = k → Calls Tryd.prog 12 #[.agg (fcells f), .int .i64 x, .int .i64 y, .agg (acells .u64 2 t)] w (ApP f x y t w) := by
    intro k hk0 hk
    have HC : Hid (apCode f x y = k) := Lib.hid (hcode.trans hk)
    have HK := Lib.hid hk
    have hkb : (k != 0) = true := by simpa using hk0
    have hkn := Lib.hid hk0
    clear hk hk0 hcode hq
    go_enter Tryd.func12, Tryd.ntmps12
    go_upto_region 1 with (fail)
    obtain ⟨W, hW, M⟩ := open2 w (fcells f) 33 (acells .u64 2 t) 35
    rw [hW]; clear hW
    go_wp2_with (go_at_call 18; refine (HG.out w.heap.size _ (M.at 0 rfl)).mono ?_; rintro e w1 ⟨rfl, rfl⟩; rw [HK.out])
    go_ret2
    exact apP_bad HC.out hkn.out _ _ (M.alloc #[] 2).below
  rcases gm_cases f q with ⟨h0, hok, hqt⟩ | ⟨h0, _⟩ | ⟨h0, _⟩
  · subst hqt
    have hxy : inB x 1 1000 = true ∧ inB y 1 1000 = true := by simpa using hq
    have hx := Lib.hid (inB_iff.1 hxy.1)
    have hy := Lib.hid (inB_iff.1 hxy.2)
    have HC : Hid (apCode f x y = 0) := Lib.hid (hcode.trans h0)
    have HK := Lib.hid h0
    obtain ⟨L, hL⟩ : ∃ L, hlist (tgS f t) 100 = L := ⟨_, rfl⟩
    have HL := Lib.hid hL
    have hLin : ∀ i, i < L.length → 0 ≤ L.getD i 0 ∧ L.getD i 0 ≤ 99 := by subst hL; exact fun i hi => hlistA_in hi
    have hLle : L.length ≤ 100 := by subst hL; exact hlist_le _ _
    obtain ⟨CS, hCS⟩ : ∃ CS, cS f x y = CS := ⟨_, rfl⟩
    have HAP := Lib.hid (fun (a c : Int) (ha : 0 ≤ a ∧ a ≤ 99) (hc : 0 ≤ c ∧ c ≤ 99) (b : Nat) (w : World) (B : Blk w b (fcells f) 33) => (by
      have h := l03Apart_any f hf a.toNat (by omega) c.toNat (by omega) x y hx.out hy.out b w B
      rw [Int.toNat_of_nonneg ha.1, Int.toNat_of_nonneg hc.1, hCS] at h
      exact h : Calls Tryd.prog 31 #[.pointer (some ⟨b, 0, none⟩), .int .i64 a, .int .i64 c, .int .i64 x, .int .i64 y] w fun e w' => e = .returned (.bool (dj (CS a) (CS c))) ∧ w = w'))
    have HPL : Hid (apL f x y t = apT CS L L.length) := Lib.hid (by unfold apL; rw [hCS, hL])
    have HIN := Lib.hid (apT_in (CS := CS) hLin)
    have HLI := Lib.hid hLin
    clear bad hcode h0 hok hq hxy hL hCS hLin
    obtain ⟨i0, hi, hz0, hz1, hz2⟩ := info_parts infoI64
    go_enter Tryd.func12, Tryd.ntmps12
    go_upto_region 1 with (fail)
    obtain ⟨W, hW, M⟩ := open2 w (fcells f) 33 (acells .u64 2 t) 35
    rw [hW]; clear hW
    have hs0 := M.below.size
    go_upto_region 6 with (first
      | (go_at_call 18; refine (HG.out w.heap.size _ (M.at 0 rfl)).mono ?_; rintro e w1 ⟨rfl, rfl⟩; rw [HK.out])
      | (go_at_call 22; refine (l03Targets_any f hf t w.heap.size (w.heap.size + 1) _ ((M.alloc #[] 2).at 0 rfl) ((M.alloc #[] 2).at 1 rfl)).mono ?_; rintro e W3 ⟨v, rfl, ho, hb⟩; rw [HL.out] at ho))
    obtain ⟨q9, c9, rfl, V, _⟩ := Nown rfl ho
    have HR0 : Hid (W3.ownsRow W.heap.size 2 1 (.slice (some ⟨W.heap.size, 0, none⟩) 0 0) 0 []) := Lib.hid ((World.ownsRow_made (e := 2) (size := 1) W #[] 0 (Nat.le_refl _) (Nat.zero_le _) (by simp)).kept (row := none) ⟨hb.os, hb.tape, hb.output, hb.size, fun k hk _ => hb.block k hk⟩ (by cases h : (Value.slice (some ⟨W.heap.size, 0, none⟩) 0 0).ownBlock with
      | none => exact .inl rfl
      | some q => exact .inr (by simp)))
    have HB3 : Hid (Below W.heap.size W W3) := Lib.hid (((Below.refl W.heap.size W).alloc (Nat.le_refl _) (.cells #[] 2)).trans (hb.mono (by simp)))
    have HBF := Lib.hid (M.at 0 rfl)
    have HBW := Lib.hid M.below
    have HJ := Lib.hid V.j
    have HNE : Hid (∀ a, q9 = some a → L.length ≠ 0 → (Value.slice (some ⟨W.heap.size, 0, none⟩) 0 0).ownBlock ≠ some a.block) := Lib.hid (fun a ha hne e => by
      rcases V with h0 | ⟨b1, o1, hp, hlo, _, _⟩
      · exact hne h0
      · rw [ha] at hp; cases hp
        simp [Value.ownBlock] at e
        simp at hlo
        omega)
    clear V ho hb M
    go_wp2_with fail
    go_loopw [11, 13] (fun v i wr => ∃ k : Nat, k ≤ L.length ∧ i = .int .i64 k ∧ Hid (wr.ownsRow W.heap.size 2 1 v (apT CS L k).length ((apT CS L k).map (Value.int .i64))) ∧ Hid (Below W.heap.size W wr) ∧ Hid (InJ wr q9 L.length (fun i => L.getD i 0)) ∧ Hid (∀ a, q9 = some a → L.length ≠ 0 → v.ownBlock ≠ some a.block)) (fun _ i _ => L.length - (intOf i).toNat)
    case atStart => exact ⟨0, by omega, rfl, HR0, HB3, HJ, HNE⟩
    case round =>
      clear HR0 HB3 HJ HNE
      obtain ⟨k, hk, rfl, hO, hB2, hJ, hN⟩ := hrel
      by_cases hlt : k < L.length
      · obtain ⟨c, hc⟩ : ∃ c, L.getD k 0 = c := ⟨_, rfl⟩
        have hcin := HLI.out k hlt
        have HIO := Lib.hid (HIN.out k hk)
        have hole := apT_le CS L k
        have hyes := Lib.hid (apT_yes (CS := CS) (L := L) (k := k))
        have hno := Lib.hid (apT_no (CS := CS) (L := L) (k := k))
        rw [hc] at hcin hyes hno
        obtain ⟨out, hout⟩ : ∃ out, apT CS L k = out := ⟨_, rfl⟩
        rw [hout] at hO HIO hole hyes hno
        obtain ⟨p5, c5, rfl, V5, _⟩ := Nown rfl hO.out
        have HV5 := Lib.hid V5.j
        have HBR := Lib.hid (HBF.out.later hB2.out)
        rcases hJ.out with hz | ⟨lb, lo, rfl, J3⟩
        · omega
        · have cL : wr.cell? ⟨lb, lo + k, none⟩ = some (.int .i64 c) := by rw [← hc]; exact J3 k hlt
          have HN2 := Lib.hid (hN.out _ rfl (by omega))
          have HJ3 := Lib.hid J3
          clear hout hc V5 J3 hN hJ
          go_wp2_with fail
          go_loopw [14, 15] (fun q i w2 => ∃ j : Nat, j ≤ out.length ∧ i = .int .i64 j ∧ q = .bool (fineT CS out c j) ∧ Hid (Below wr.heap.size wr w2)) (fun _ i _ => out.length - (intOf i).toNat)
          case atStart => exact ⟨0, by omega, rfl, rfl, Lib.hid (Below.refl _ _)⟩
          case round =>
            obtain ⟨j, hj, rfl, rfl, hbj⟩ := hrel
            have HBJ := Lib.hid (HBR.out.later hbj.out)
            have cL2 : wr.cell? ⟨lb, lo + k, none⟩ = some (.int .i64 c) := cell_later cL hbj.out
            by_cases hlt2 : j < out.length
            · rcases HV5.out with hz | ⟨ob, oo, rfl, J5⟩
              · omega
              · obtain ⟨o, ho⟩ : ∃ o, out.getD j 0 = o := ⟨_, rfl⟩
                have hoin : 0 ≤ o ∧ o ≤ 99 := by rw [← ho]; exact HIO.out _ (getD_mem hlt2)
                have cO : wr.cell? ⟨ob, oo + j, none⟩ = some (.int .i64 o) := by rw [← ho]; exact (J5.later hbj.out) j hlt2
                have hst := fineT_succ CS out c j
                rw [ho] at hst
                clear J5 ho
                cases hq : fineT CS out c j with
                | false =>
                  rw [hq, Bool.false_and] at hst
                  have HST := Lib.hid hst
                  clear hst hq
                  go_upto_region 13 with (fail)
                  go_quiet (fail)
                  go_wp2_with fail
                  go_roundw
                  case rel => exact ⟨j + 1, by omega, by go_num, by rw [HST.out], Lib.hid (below_drewN _ hbj.out)⟩
                  case measure => simp [intOf]; omega
                | true =>
                  rw [hq, Bool.true_and] at hst
                  obtain ⟨d, hd⟩ : ∃ d, dj (CS o) (CS c) = d := ⟨_, rfl⟩
                  have HD := Lib.hid hd
                  rw [hd] at hst
                  have HST := Lib.hid hst
                  clear hst hq hd
                  go_upto_region 13 with (fail)
                  go_quiet ((go_at_call 31; exact Calls.quiet_of_same ((HAP.out o c hoin hcin w.heap.size _ (by first | exact HBJ.out | exact HBJ.out.drewN _)).mono (fun e w9 h9 => ⟨h9.1.trans (by rw [HD.out]), h9.2.symm⟩))))
                  go_wp2_with fail
                  go_roundw
                  case rel => exact ⟨j + 1, by omega, by go_num, by rw [HST.out], Lib.hid (below_drewN _ hbj.out)⟩
                  case measure => simp [intOf]; omega
            · obtain rfl : j = out.length := by omega
              have hO2 := owns_belowP hO.out hbj.out
              have hB4 := hB2.out.trans (hbj.out.mono hB2.out.size)
              have hbs := hB4.size
              have J2 := HJ3.out.later hbj.out
              cases hq : fineT CS out c out.length with
              | false =>
                have e := Lib.hid (hno.out hq)
                clear hq
                go_wp2_with fail
                go_roundw
                case rel => exact ⟨k + 1, by omega, by go_num, by rw [e.out]; exact Lib.hid hO2, Lib.hid hB4, Lib.hid (.inr ⟨lb, lo, rfl, J2⟩), Lib.hid (fun a ha _ => by cases ha; exact HN2.out)⟩
                case measure => simp [intOf]; omega
              | true =>
                have e := Lib.hid (hyes.out hq)
                have hlb : lb < wr.heap.size := World.block_lt_of_cell? _ _ cL2
                clear hq
                go_wp2_with (at_builtin; refine wpList_append_own_at _ rfl _ _ 30 rfl W.heap.size 2 i0 (.int .i64 0) 1 8 Tryd.underlying30 hi hz0 hz1 hz2 rfl (by decide) _ _ _ rfl (hO2.alloc _) ⟨wr.heap.size, 0, none⟩ 1 1 [.int .i64 c] rfl rfl ?c1 ?c2 ?c3 ?c4 ?c5 ?_)
                case c1 => exact cell_one_new _ _ _
                case c2 => intro u hu; simp at hu; subst hu; rfl
                case c3 => unfold maxLen; omega
                case c4 => omega
                case c5 => simp; omega
                intro v4 w4 ho4 hg4 _ hat
                have C4 := Lib.hid (below_own (hB4.alloc hB4.size (.cells #[.int .i64 c] 2)) (by simp; omega) (hO2.alloc _) hg4)
                have O4 : Hid (w4.ownsRow W.heap.size 2 1 v4 (apT CS L (k + 1)).length ((apT CS L (k + 1)).map (Value.int .i64))) := Lib.hid (by rw [e.out, List.length_append, List.map_append]; exact ho4)
                have J4 := Lib.hid ((J2.later ((Below.refl _ wr).alloc (Nat.le_refl _) (.cells #[.int .i64 c] 2))).grownA hg4 (fun h => HN2.out h.symm))
                have N4 : Hid (v4.ownBlock ≠ some lb) := Lib.hid (by
                  rcases hat with h | h
                  · rw [h]; exact HN2.out
                  · rw [h]; simp; omega)
                clear ho4 hg4 hat J2 hO2
                go_wp2_with fail
                go_roundw
                case rel => exact ⟨k + 1, by omega, by go_num, O4, C4, Lib.hid (.inr ⟨lb, lo, rfl, J4.out⟩), Lib.hid (fun a ha _ => by cases ha; exact N4.out)⟩
                case measure => simp [intOf]; omega
      · obtain rfl : k = L.length := by omega
        obtain ⟨p5, c5, rfl⟩ := own_outA hO.out
        go_wp2_with fail
        go_ret2
        exact apP_ok HC.out HPL.out W.heap.size hs0 hO.out (HBW.out.trans (hB2.out.mono hs0))
  · exact bad 1 (by decide) h0
  · exact bad 2 (by decide) h0
end Go.Proofs.YtidddepdjokjcaaDoor
