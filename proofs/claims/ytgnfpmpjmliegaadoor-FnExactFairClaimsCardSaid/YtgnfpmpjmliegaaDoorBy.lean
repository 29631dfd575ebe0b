/-
  The losses of each owner: the model's.
-/
import Derived.Test.YtgnfpmpjmliegaaDoorPair1
namespace Go.Proofs.YtgnfpmpjmliegaaDoor
open Go Go.RowKit Go.Stop Go.Extern.Stop

/-- The losses of each owner, over the numbers below n. -/
def byTo (f g : Fd) (o : Nat → Int) : Nat → Nat → Int
  | 0 => fun _ => 0
  | n + 1 => fun j => if o n = (j : Int) then byTo f g o n j + lossN f g n else byTo f g o n j
theorem byTo_at (f g : Fd) (o : Nat → Int) (n j : Nat) : byTo f g o (n + 1) j = if o n = (j : Int) then byTo f g o n j + lossN f g n else byTo f g o n j := rfl
theorem byTo_in {f g : Fd} (o : Nat → Int) (h1 : okF f = true) (h2 : okF g = true) : ∀ n : Nat, n ≤ 100 → ∀ j : Nat, -1000 * (n : Int) ≤ byTo f g o n j ∧ byTo f g o n j ≤ 1000 * (n : Int)
  | 0, _, j => by simp [byTo]
  | n + 1, hn, j => by
    have ih := byTo_in o h1 h2 n (by omega) j
    have := lossN_in h1 h2 (i := n) (by omega)
    rw [byTo_at]
    split <;> omega
theorem byTo_skip {f g : Fd} {o : Nat → Int} {n : Nat} (h : o n < 0) (j : Nat) : byTo f g o (n + 1) j = byTo f g o n j := by
  rw [byTo_at, if_neg (by omega)]
theorem ownFit_at {f : Fd} {o : Nat → Int} (h : ownFit f o = true) {i : Nat} (hi : i < 100) : (isCell f i = true ∧ 0 ≤ o i ∧ o i ≤ 9) ∨ (isCell f i = false ∧ o i = -1) := by
  have := allTo_iff.1 h i hi
  unfold ownOk at this
  cases hc : isCell f i with
  | true => rw [hc, if_pos rfl, inB_iff] at this; exact .inl ⟨rfl, this⟩
  | false => rw [hc, if_neg (by decide)] at this; exact .inr ⟨rfl, by simpa using this⟩
theorem l06Owned_any (f g : Fd) (hf : f.Wf) (hg : g.Wf) (o : Nat → Int) (ho : WfO o) (b c d : Nat) (w : World) (B : Blk w b (fcells f) 32) (C : Blk w c (fcells g) 32) (D : Blk w d (acells .i8 100 o) 34) :
    Calls Tryd.prog 22 #[.pointer (some ⟨b, 0, none⟩), .pointer (some ⟨c, 0, none⟩), .pointer (some ⟨d, 0, none⟩)] w fun e w' => e = .returned (.int .i64 (ownedCode f g o)) ∧ Below w.heap.size w w' := by
  have HB := Lib.hid B
  have HD := Lib.hid D
  unfold ownedCode
  cases hb : ownB f o with
  | false =>
    rw [if_pos rfl]
    go_enter Tryd.func22, Tryd.ntmps22
    go_wp2_with (first
      | (go_at_call 32; refine (l06Pair_any f g hf hg _ _ _ B C).mono ?_; rintro e W2 ⟨rfl, hb2⟩; have HB2 := Lib.hid (HB.out.later hb2); have HD2 := Lib.hid (HD.out.later hb2))
      | (go_at_call 33; refine (l06Owners_any f hf o ho _ _ _ HB2.out HD2.out).mono ?_; rintro e w' ⟨rfl, rfl⟩; rw [hb]))
    go_ret
    exact ⟨rfl, hb2⟩
  | true =>
    rw [if_neg (by decide)]
    go_enter Tryd.func22, Tryd.ntmps22
    go_wp2_with (first
      | (go_at_call 32; refine (l06Pair_any f g hf hg _ _ _ B C).mono ?_; rintro e W2 ⟨rfl, hb2⟩; have HB2 := Lib.hid (HB.out.later hb2); have HD2 := Lib.hid (HD.out.later hb2))
      | (go_at_call 33; refine (l06Owners_any f hf o ho _ _ _ HB2.out HD2.out).mono ?_; rintro e w' ⟨rfl, rfl⟩; rw [hb]))
    go_ret
    exact ⟨rfl, hb2⟩
theorem wpList_makeN {P : Program} {ops : Array Oper} {rest : List Oper} {op : Oper} {a : Act} {w : World} {Q : Exit → Act → World → Prop} (hgd : op.guard = none) (t e : TypeId) (x : Operand) (ho : op.op = .makeSlice t x x) (n : Nat) (hx : a.eval x = .int .i64 n)
    (ht : P.underlying t = some (.slice e)) (hi : (P.info? e).map (fun i => (i.zero, i.size, i.bytes)) = some (some (.int .i64 0), 1, 8)) (hn : n ≤ 2 ^ 40)
    (h : wpList P ops Q rest (a.put op.dst (.slice (some ⟨w.heap.size, 0, none⟩) n n)) (w.alloc (.cells (acells .i64 n (fun _ => 0)) e))) : wpList P ops Q (op :: rest) a w := by
  obtain ⟨i0, hie, hz, h1, h2⟩ := info_parts hi
  have hr := run_make (P := P) w t e i0 (.int .i64 0) ht hie hz .i64 .i64 n n (by omega) (by omega) (by rw [h2]; omega) (by omega)
  rw [h1, Int.toNat_natCast] at hr
  have e0 : madeCells (Value.int .i64 0).cells (n * 1) = acells .i64 n (fun _ => 0) := by
    refine acells_ext (by rw [size_madeCells, Nat.mul_one]) (fun i hi => ?_)
    have : (madeCells (Value.int .i64 0).cells (n * 1)).toList = List.replicate (n * 1) (Value.int .i64 0) := toList_madeCells_one _ _
    rw [← Array.getElem?_toList, this, Nat.mul_one, List.getElem?_replicate, if_pos hi]
  rw [e0] at hr
  refine wpList_run hgd (v := .slice (some ⟨w.heap.size, 0, none⟩) n n) ?_ h
  unfold execOp
  simp only [ho, hx, Sem.run_bind, hr, Result.andThen_ok, Sem.run_pure]
set_option maxRecDepth 100000 in
set_option maxHeartbeats 8000000 in
theorem l06ByOwner_any (f g : Fd) (h1 : okF f = true) (h2 : okF g = true) (o : Nat → Int) (hfit : ownFit f o = true) (b c d : Nat) (w : World) (B : Blk w b (fcells f) 32) (C : Blk w c (fcells g) 32) (D : Blk w d (acells .i8 100 o) 34) :
    Calls Tryd.prog 16 #[.pointer (some ⟨b, 0, none⟩), .pointer (some ⟨c, 0, none⟩), .pointer (some ⟨d, 0, none⟩)] w fun e w' => ∃ bs, e = .returned (.slice (some ⟨bs, 0, none⟩) 10 10) ∧ w.heap.size ≤ bs ∧ Blk w' bs (acells .i64 10 (byTo f g o 100)) 2 ∧ Below w.heap.size w w' := by
  have HB := Lib.hid B
  have HC := Lib.hid C
  have HD := Lib.hid D
  have H1 := Lib.hid h1
  have H2 := Lib.hid h2
  have HFIT := Lib.hid hfit
  clear B C D h1 h2 hfit
  have hz : Hid (Tryd.zeroCells25.size = 100) := Lib.hid (by rw [zeroS, acells_size])
  go_enter Tryd.func16, Tryd.ntmps16
  go_upto_region 2 with (first
    | (refine wpList_makeN rfl 29 2 _ rfl 10 rfl Tryd.underlying29 (by kernel_rfl) (by omega) ?_))
  obtain ⟨W, hW, M⟩ := open1 w (acells .i64 10 (byTo f g o 0)) 2
  rw [show (fun _ : Nat => (0 : Int)) = byTo f g o 0 from rfl]
  rw [hW]; clear hW
  go_upto_region 3 with (first
    | (go_at_call 24; refine (l06Loss_any f g H1.out H2.out _ _ _ (HB.out.later M.below) (HC.out.later M.below)).mono ?_; rintro e W3 ⟨rfl, hb⟩; have M3 := M.call hb; clear hb; have M4 := M3.alloc Tryd.zeroCells25 25)
    | (refine wpList_store_row rfl 25 _ _ rfl W3.heap.size (acells .i16 100 (lossN f g)) rfl rfl 25 _ (M4.at 1 rfl) (by rw [acells_size]; exact sizeS) (by rw [acells_size, hz.out]) (acells_one _ _ _) ?_))
  have M5 := M4.row 1 rfl (acells .i16 100 (lossN f g))
  obtain ⟨bl, hbl⟩ : ∃ b9, b9 = W3.heap.size := ⟨_, rfl⟩
  rw [← hbl] at M5 ⊢
  generalize World.setRow _ _ _ = W5 at M5 ⊢
  clear M4 M3 M hbl
  obtain ⟨bs, hbs⟩ : ∃ bs, bs = w.heap.size := ⟨_, rfl⟩
  rw [← hbs] at M5 ⊢
  have hbs' := Lib.hid (show w.heap.size ≤ bs by omega)
  clear hbs
  have M0 := Lib.hid M5
  clear M5
  go_wp2_with fail
  go_loopw [9] (fun i wr => ∃ k : Nat, k ≤ 100 ∧ i = .int .i64 k ∧ Hid (Mem w wr [⟨bs, acells .i64 10 (byTo f g o k), 2⟩, ⟨bl, acells .i16 100 (lossN f g), 25⟩])) (fun i _ => 100 - (intOf i).toNat)
  case atStart => exact ⟨0, by omega, rfl, M0⟩
  case round =>
    clear M0
    obtain ⟨k, hk', rfl, hM⟩ := hrel
    by_cases hlt : k < 100
    · have hk1 : (k : Int) < 100 := by omega
      have cO := (HD.out.later hM.out.below).cell (acells_get _ _ _ k hlt)
      rcases ownFit_at HFIT.out hlt with ⟨_, k1, k2⟩ | ⟨_, k1⟩
      · obtain ⟨j, hj⟩ : ∃ j : Nat, o k = (j : Int) := ⟨(o k).toNat, by omega⟩
        have hj2 : j < 10 := by omega
        have cl := (hM.out.at 1 rfl).cell (acells_get _ _ _ k hlt)
        have cs := (hM.out.at 0 rfl).cell (acells_get _ _ _ j hj2)
        have ef := (hM.out.at 0 rfl).free j
        obtain ⟨u1, u2⟩ := byTo_in (f := f) (g := g) o H1.out H2.out k (by omega) j
        obtain ⟨l1, l2⟩ := lossN_in H1.out H2.out hlt
        have hnew := Lib.hid (show byTo f g o k j + lossN f g k = byTo f g o (k + 1) j by rw [byTo_at, if_pos hj])
        have hoth := Lib.hid (fun (i : Nat) (hi : i ≠ j) => show byTo f g o (k + 1) i = byTo f g o k i by rw [byTo_at, if_neg (by omega)])
        rw [hj] at cO k1 k2
        obtain ⟨v, hv⟩ : ∃ v, v = lossN f g k := ⟨_, rfl⟩
        obtain ⟨s, hs⟩ : ∃ s, s = byTo f g o k j := ⟨_, rfl⟩
        rw [← hv] at l1 l2 cl
        rw [← hs] at u1 u2 cs
        rw [← hv, ← hs] at hnew
        clear hv hs
        go_wp2_with fail
        have hset := Lib.hid (show (acells .i64 10 (byTo f g o k)).setIfInBounds j (.int .i64 (s + v)) = acells .i64 10 (byTo f g o (k + 1)) by
          rw [acells_set _ _ _ _ _ hj2, hnew.out]
          exact acells_congr (fun i _ => by
            by_cases hi : i = j
            · rw [if_pos hi, hi]
            · rw [if_neg hi, hoth.out i hi]))
        go_region
        have M4 := (hM.out.set 0 j (.int .i64 (s + v)) rfl _ hset.out).drew
        have M5 := Lib.hid M4
        clear M4
        go_wp2_with fail
        go_roundw
        case rel => exact ⟨k + 1, by omega, by go_num, M5⟩
        case measure => simp [intOf]; omega
      · have hno := Lib.hid (show byTo f g o (k + 1) = byTo f g o k from funext (byTo_skip (by omega)))
        rw [k1] at cO
        go_wp2_with fail
        go_roundw
        case rel => exact ⟨k + 1, by omega, by go_num, by rw [hno.out]; exact hM⟩
        case measure => simp [intOf]; omega
    · obtain rfl : k = 100 := by omega
      go_wp2_with fail
      go_ret
      exact ⟨bs, rfl, hbs'.out, hM.out.at 0 rfl, hM.out.below⟩
end Go.Proofs.YtgnfpmpjmliegaaDoor
