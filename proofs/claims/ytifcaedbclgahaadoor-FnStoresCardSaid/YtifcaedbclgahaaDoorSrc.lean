/-
  The source of choices: what is picked lies within its bounds.
-/
import Derived.Test.YtifcaedbclgahaaDoorByt
import Derived.Deep.QuietTactic
import Derived.Deep.DeepCutAuto
import Derived.BigRegion
import Derived.RangeFuncOwn
import Derived.Laws.Bits64b
namespace Go.Proofs.YtifcaedbclgahaaDoor
open Go Go.RowKit

theorem gcell (W : World) (b i : Nat) (v : Value) : W.grownBy (W.setCell ⟨b, i, none⟩ v) (some b) :=
  ⟨rfl, rfl, rfl, (KeepsWalks.setCell W _ v).size, fun k _ hk => Below.heap_setCell _ _ _ k (fun e => hk (by rw [e]))⟩
theorem gtrans {A B C : World} {row : Option Nat} (h1 : A.grownBy B row) (h2 : B.grownBy C row) : A.grownBy C row :=
  ⟨h2.os.trans h1.os, h2.tape.trans h1.tape, h2.output.trans h1.output, Nat.le_trans h1.size h2.size, fun k hk hne => (h2.block k (Nat.lt_of_lt_of_le hk h1.size) hne).trans (h1.block k hk hne)⟩
theorem gdrewN (W : World) (n : Nat) (row : Option Nat) : W.grownBy (W.drewN n) row := ⟨rfl, rfl, rfl, Nat.le_refl _, fun _ _ _ => rfl⟩
abbrev cSrc (p : Option Addr) (n c : Nat) (at_ seed : Int) : Array Value := #[.slice p n c, .int .i64 at_, .int .u64 seed]
/-- What the source lies as. -/
structure SrcAt (w : World) (b : Nat) (p : Option Addr) (n c : Nat) (q : Int) : Prop where
  blk : ∃ seed, (0 ≤ seed ∧ seed < 18446744073709551616) ∧ Blk w b (cSrc p n c q seed) 48
theorem QJ.grown {w w' : World} {p : Option Addr} {n b : Nat} {g : Nat → Int} (h : QJ w p n g) (hg : w.grownBy w' (some b)) (hne : ∀ b2 o, p = some ⟨b2, o, none⟩ → 0 < n → b2 ≠ b) : QJ w' p n g := by
  rcases h with h | ⟨b2, o, e, I⟩
  · exact .inl h
  · by_cases hn : n = 0
    · exact .inl hn
    · exact .inr ⟨b2, o, e, fun i hi => hg.cell (I i hi) (by have := hne b2 o e (by omega); simpa using this)⟩
theorem and255 {y : Int} (h : 0 ≤ y ∧ y < 18446744073709551616) : 0 ≤ wrap64 (bits .and .u64 (y / 1099511627776) 255) ∧ wrap64 (bits .and .u64 (y / 1099511627776) 255) ≤ 255 := by
  obtain ⟨a, ha⟩ : ∃ a : Nat, y / 1099511627776 = a := ⟨(y / 1099511627776).toNat, by omega⟩
  have h1 := bits_and_u64_nat a 255 (by omega) (by omega)
  simp only [Int.cast_ofNat_Int] at h1
  rw [ha, h1]
  have h2 : a &&& 255 ≤ 255 := Nat.and_le_right
  unfold wrap64; omega
theorem u64_in (x : Int) : 0 ≤ IntKind.u64.wrap x ∧ IntKind.u64.wrap x < 18446744073709551616 := by rw [IntKind.wrap_u64]; omega
set_option maxRecDepth 100000 in
set_option maxHeartbeats 4000000 in
theorem next_any (p : Option Addr) (n c : Nat) (hn : n ≤ 2 ^ 40) (g : Nat → Int) (hg : WfQ n g) (q : Nat) (hq : q ≤ 2 ^ 40) (b : Nat) (w : World) (B0 : SrcAt w b p n c q) (J : QJ w p n g) :
    Calls Tryd.prog 23 #[.pointer (some ⟨b, 0, none⟩)] w fun e w' => (∃ x : Int, e = .returned (.int .i64 x) ∧ 0 ≤ x ∧ x ≤ 255) ∧ w.grownBy w' (some b) ∧ SrcAt w' b p n c ((q : Int) + 1) := by
  obtain ⟨seed, hs0, B⟩ := B0.blk
  clear B0
  go_enter Tryd.func23, Tryd.ntmps23
  have c0 : w.cell? ⟨b, 0, none⟩ = some (.slice p n c) := B.cell (i := 0) rfl
  have c1 : w.cell? ⟨b, 1, none⟩ = some (.int .i64 q) := B.cell (i := 1) rfl
  have c2 : w.cell? ⟨b, 2, none⟩ = some (.int .u64 seed) := B.cell (i := 2) rfl
  have f1 := B.free 1
  have f2 := B.free 2
  by_cases hlt : q < n
  · obtain ⟨b2, o, rfl, I⟩ : ∃ b2 o, p = some ⟨b2, o, none⟩ ∧ InQ w b2 o n g := by
      rcases J with h | h
      · omega
      · exact h
    have d0 := I q hlt
    obtain ⟨g1, g2⟩ := hg q hlt
    go_upto_region 2 with (fail)
    go_quiet (fail)
    go_upto_region 3 with (fail)
    go_quiet (fail)
    go_wp2_with fail
    generalize hW : World.setCell (World.setCell _ _ _) _ _ = W
    have hB : Hid (∃ sd, (0 ≤ sd ∧ sd < 18446744073709551616) ∧ Blk W b (cSrc (some ⟨b2, o, none⟩) n c ((q : Int) + 1) sd) 48) := Lib.hid (by subst hW; exact ⟨_, u64_in _, ((B.drewN _).set 1 _).set 2 _⟩)
    have hG : Hid (w.grownBy W (some b)) := Lib.hid (by subst hW; exact gtrans (gtrans (gdrewN _ _ _) (gcell _ _ _ _)) (gcell _ _ _ _))
    clear hW c0 c1 c2 f1 f2 d0 B
    obtain ⟨sd, hsd, B⟩ := hB.out
    have c0 : W.cell? ⟨b, 0, none⟩ = some (.slice (some ⟨b2, o, none⟩) n c) := B.cell (i := 0) rfl
    have c1 : W.cell? ⟨b, 1, none⟩ = some (.int .i64 ((q : Int) + 1)) := B.cell (i := 1) rfl
    go_quiet (fail)
    go_wp2_with fail
    go_ret
    exact ⟨⟨_, rfl, g1, g2⟩, gtrans hG.out (gdrewN _ _ _), ⟨_, hsd, B.drewN _⟩⟩
  · go_upto_region 2 with (fail)
    go_quiet (fail)
    go_wp2_with fail
    generalize hW : World.setCell (World.setCell _ _ _) _ _ = W
    have hB : Hid (∃ sd, (0 ≤ sd ∧ sd < 18446744073709551616) ∧ Blk W b (cSrc p n c ((q : Int) + 1) sd) 48) := Lib.hid (by subst hW; exact ⟨_, u64_in _, ((B.drewN _).set 1 _).set 2 _⟩)
    have hG : Hid (w.grownBy W (some b)) := Lib.hid (by subst hW; exact gtrans (gtrans (gdrewN _ _ _) (gcell _ _ _ _)) (gcell _ _ _ _))
    clear hW c0 c1 c2 f1 f2 B
    obtain ⟨sd, hsd, B⟩ := hB.out
    have c0 : W.cell? ⟨b, 0, none⟩ = some (.slice p n c) := B.cell (i := 0) rfl
    have c1 : W.cell? ⟨b, 1, none⟩ = some (.int .i64 ((q : Int) + 1)) := B.cell (i := 1) rfl
    have c2 : W.cell? ⟨b, 2, none⟩ = some (.int .u64 sd) := B.cell (i := 2) rfl
    go_quiet (fail)
    go_wp2_with fail
    go_ret
    obtain ⟨z1, z2⟩ := and255 hsd
    exact ⟨⟨_, rfl, z1, z2⟩, gtrans hG.out (gdrewN _ _ _), ⟨_, hsd, B.drewN _⟩⟩
set_option maxRecDepth 100000 in
set_option maxHeartbeats 4000000 in
theorem pick_any (p : Option Addr) (n c : Nat) (hn : n ≤ 2 ^ 40) (g : Nat → Int) (hg : WfQ n g) (q : Nat) (hq : q < 2 ^ 39) (m : Int) (hm : 2 ≤ m ∧ m ≤ 60000) (b : Nat) (w : World) (B0 : SrcAt w b p n c q) (J : QJ w p n g) (hne : ∀ b2 o, p = some ⟨b2, o, none⟩ → 0 < n → b2 ≠ b) :
    Calls Tryd.prog 13 #[.pointer (some ⟨b, 0, none⟩), .int .i64 m] w fun e w' => (∃ x : Int, e = .returned (.int .i64 x) ∧ 0 ≤ x ∧ x < m) ∧ w.grownBy w' (some b) := by
  obtain ⟨hm1, hm2⟩ := hm
  have HB := Lib.hid B0
  have HJ := Lib.hid J
  have HG := Lib.hid hg
  clear B0 J hg
  by_cases hbig : 200 < m
  · go_enter Tryd.func13, Tryd.ntmps13
    have ok1 : True := trivial
    have ok2 : True := trivial
    go_wp2_with (first
      | (clear ok1; go_at_call 23; refine (next_any p n c hn g HG.out q (by omega) b _ HB.out HJ.out).mono ?_; rintro e W2 ⟨⟨x, rfl, hx1, hx2⟩, hg2, hB2⟩; have J2 := Lib.hid (HJ.out.grown hg2 hne); have G2 := Lib.hid hg2; have B2 := Lib.hid hB2; clear hg2 hB2)
      | (clear ok2; go_at_call 23; refine (next_any p n c hn g HG.out (q + 1) (by omega) b _ B2.out J2.out).mono ?_; rintro e W3 ⟨⟨y, rfl, hy1, hy2⟩, hg3, hB3⟩; have G3 := Lib.hid (gtrans G2.out hg3); clear hg3 hB3))
    go_ret
    have h1 : 0 ≤ (x * 256 + y) % m := Int.emod_nonneg _ (by omega)
    have h2 : (x * 256 + y) % m < m := Int.emod_lt_of_pos _ (by omega)
    exact ⟨⟨_, rfl, h1, h2⟩, G3.out⟩
  · go_enter Tryd.func13, Tryd.ntmps13
    go_wp2_with (go_at_call 23; refine (next_any p n c hn g HG.out q (by omega) b _ HB.out HJ.out).mono ?_; rintro e W2 ⟨⟨x, rfl, hx1, hx2⟩, hg2, hB2⟩; have G2 := Lib.hid hg2; clear hg2 hB2)
    go_ret
    have h1 : 0 ≤ x % m := Int.emod_nonneg _ (by omega)
    have h2 : x % m < m := Int.emod_lt_of_pos _ (by omega)
    exact ⟨⟨_, rfl, h1, h2⟩, G2.out⟩
theorem from_any (p : Option Addr) (n c : Nat) (w : World) : Calls Tryd.prog 12 #[.slice p n c] w fun e w' => e = .returned (.pointer (some ⟨w.heap.size, 0, none⟩)) ∧ w' = w.alloc (.cells (cSrc p n c 0 0) 48) := by
  go_enter Tryd.func12, Tryd.ntmps12
  go_wp2_with fail
  go_ret
  exact ⟨rfl, rfl⟩
theorem p6pick_any (p : Option Addr) (n c : Nat) (hn : n ≤ 2 ^ 40) (g : Nat → Int) (hg : WfQ n g) (m : Int) (hm : 2 ≤ m ∧ m ≤ 60000) (w : World) (J : QJ w p n g) :
    Calls Tryd.prog 7 #[.slice p n c, .int .i64 m] w fun e w' => (∃ x : Int, e = .returned (.int .i64 x) ∧ 0 ≤ x ∧ x < m) ∧ Below w.heap.size w w' := by
  have HJ := Lib.hid J
  clear J
  go_enter Tryd.func7, Tryd.ntmps7
  have hb1 : Below w.heap.size w (w.alloc (.cells (cSrc p n c 0 0) 48)) := (Below.refl _ _).alloc (Nat.le_refl _) _
  have hB1 := Blk.new w (cSrc p n c 0 0) 48
  have HB1 := Lib.hid hb1
  have HX := Lib.hid hB1
  clear hb1 hB1
  go_wp2_with (first
    | (go_at_call 12; refine (from_any p n c _).mono ?_; rintro e W2 ⟨rfl, rfl⟩)
    | (go_at_call 13; refine (pick_any p n c hn g hg 0 (by omega) m hm w.heap.size _ ⟨0, by omega, HX.out⟩ (HJ.out.later HB1.out) (fun b2 o e hp => by
        rcases HJ.out with h | ⟨b3, o3, e3, I⟩
        · omega
        · have := World.block_lt_of_cell? _ _ (I 0 hp)
          rw [e] at e3
          cases e3
          simp at this
          omega)).mono ?_; rintro e W3 ⟨⟨x, rfl, hx1, hx2⟩, hg3⟩))
  go_ret
  exact ⟨⟨_, rfl, hx1, hx2⟩, HB1.out.grown hg3 HB1.out.size (fun k e => by cases e; exact Nat.le_refl _)⟩
theorem f6big_any (p : Option Addr) (n c : Nat) (hn : n ≤ 9223372036854775807) (w : World) : Calls Tryd.prog 6 #[.slice p n c] w fun e w' => e = .returned (.bool (decide (4096 < (n : Int)))) ∧ w = w' := by
  go_enter Tryd.func6, Tryd.ntmps6
  go_wp2_with fail
  go_ret
  exact ⟨rfl, rfl⟩
end Go.Proofs.YtifcaedbclgahaaDoor
