/-
  The program's check of two fields at once.
-/
import Derived.Test.YtddbpbibjiahgaaDoorCoreC
import Derived.Test.YtddbpbibjiahgaaDoorPairV
import Derived.WideKeyRuns
namespace Go.Proofs.YtddbpbibjiahgaaDoor
open Go Go.RowKit

theorem okF_cells {f g : Fd} (h : fcells f = fcells g) : okF f = okF g := by
  obtain ⟨h1, h2, h3, h4⟩ := fcells_inj h
  have hc : ∀ i : Nat, isCell f i = isCell g i := fun i => by unfold isCell; rw [h1, h2]
  unfold okF
  have e : allTo 100 (cellOk f) = allTo 100 (cellOk g) := allTo_congr (fun i hi => by unfold cellOk; rw [h3 i hi, h4 i hi, hc i])
  rw [h1, h2, e]
theorem zip_self {α : Type} : ∀ (l : List α) (p : α × α), p ∈ l.zip l → p.1 = p.2 ∧ p.1 ∈ l
  | [], p, h => by simp at h
  | x :: l, p, h => by
    rw [List.zip_cons_cons] at h
    rcases List.mem_cons.1 h with rfl | h
    · exact ⟨rfl, List.mem_cons_self ..⟩
    · obtain ⟨h1, h2⟩ := zip_self l p h
      exact ⟨h1, List.mem_cons_of_mem _ h2⟩
theorem sameBits_self (f : Fd) : Instr.sameBits 10000 (.agg (fcells f)) (.agg (fcells f)) = true := by
  unfold Instr.sameBits
  rw [Bool.and_eq_true]
  refine ⟨by simp, List.all_eq_true.2 (fun p hp => ?_)⟩
  obtain ⟨x, y⟩ := p
  obtain ⟨h1, h2⟩ := zip_self _ _ hp
  simp only at h1 h2
  subst h1
  have : ∃ k n, x = .int k n := by
    simp only [fcells, List.mem_map, List.mem_range] at h2
    obtain ⟨i, _, rfl⟩ := h2
    unfold fcell; repeat' split
    all_goals exact ⟨_, _, rfl⟩
  obtain ⟨k, n, rfl⟩ := this
  simp [Instr.sameBits]
theorem run_find_one (f g : Fd) (hf : f.Wf) (hg : g.Wf) (v : Value) (c : Nat) (w : World) : (Instr.findKey 31 (.agg (fcells g)) [{ key := .agg (fcells f), val := v, born := c }]).run Tryd.prog w = .ok (if feq g f = true then some (0, v) else none) w := by
  have h0 := run_findKey_eq (P := Tryd.prog) (w := w) (k := 31) (by rw [Tryd.underlying31]) (.agg (fcells g)) [{ key := .agg (fcells f), val := v, born := c }]
  rw [h0]
  have := run_equalIn_field g f hg hf w
  cases h : feq g f with
  | true => rw [h] at this; simp [Instr.findAsking, Op.equal, Op.maxDepth, this]
  | false => rw [h] at this; simp [Instr.findAsking, Op.equal, Op.maxDepth, this]
theorem run_lookup_one {P : Program} {t k e : TypeId} {w : World} {m : Nat} {key z : Value} {x : MapEntry} {L : List Lit} {D dd : Nat} {r : Option (Nat × Value)} (ht : P.underlying t = some (.map k e)) (hm : w.heap[m]? = some (.map #[x] 1)) (hk : P.keyTypeAt dd k = true) (hdd : dd ≤ 10000)
    (hf : key.formed P k = true) (hL : P.keyLits D k key.cells.toList = some L) (hr : (Instr.findKey k key [x]).run P w = .ok r w) (hz : (zeroValue e).run P w = .ok z w) :
    (Instr.lookup t (.map (some m)) key false).run P w = .ok (match r with | some p => p.2 | none => z) w := by
  have hc : (Instr.checkKey false 10000 k key).run P w = .ok () w := by
    have := run_checkKey_deep (P := P) false (10000 - dd) dd k hk w D key L hf hL
    rwa [show 10000 - dd + dd = 10000 by omega] at this
  cases r with
  | none => simp [Instr.lookup, run_underlying ht, MapKept.run_getObj_map hm, hc, hr, hz, Result.andThen]
  | some p => simp [Instr.lookup, run_underlying ht, MapKept.run_getObj_map hm, hc, hr, Result.andThen]
theorem run_update_one (f g : Fd) (hf : f.Wf) (hg : g.Wf) {t e : TypeId} {w : World} {m : Nat} {L : List Lit} {D dd : Nat} (ht : Tryd.prog.underlying t = some (.map 31 e)) (hm : w.heap[m]? = some (.map #[{ key := .agg (fcells f), val := .bool true, born := 0 }] 1)) (hk : Tryd.prog.keyTypeAt dd 31 = true) (hdd : dd ≤ 10000)
    (hfm : (Value.agg (fcells g)).formed Tryd.prog 31 = true) (hL : Tryd.prog.keyLits D 31 (Value.agg (fcells g)).cells.toList = some L) :
    ∃ es c, (Instr.mapUpdate t (.map (some m)) (.agg (fcells g)) (.bool true)).run Tryd.prog w = .ok () (w.putObj m (.map es c)) := by
  have hc : (Instr.checkKey false 10000 31 (.agg (fcells g))).run Tryd.prog w = .ok () w := by
    have := run_checkKey_deep (P := Tryd.prog) false (10000 - dd) dd 31 hk w D _ L hfm hL
    rwa [show 10000 - dd + dd = 10000 by omega] at this
  have h1 := run_find_one f g hf hg (.bool true) 0 w
  unfold World.putObj
  cases h : feq g f with
  | false =>
    rw [h] at h1
    simp only [Bool.false_eq_true, if_false] at h1
    refine ⟨(#[{ key := .agg (fcells f), val := .bool true, born := 0 }] : Array MapEntry).push { key := .agg (fcells g), val := .bool true, born := 1 }, 1 + 1, ?_⟩
    simp only [Instr.mapUpdate, Sem.run_bind, run_underlying ht, Result.andThen_ok, MapKept.run_getObj_map hm, hc, h1, MapKept.run_setObj_map _ hm]
  | true =>
    rw [h] at h1
    simp only [if_true] at h1
    have e := feq_iff.1 h
    refine ⟨(#[{ key := .agg (fcells f), val := .bool true, born := 0 }] : Array MapEntry).modify 0 (fun e => { e with key := .agg (fcells g), val := .bool true }), 1, ?_⟩
    simp only [Instr.mapUpdate, Sem.run_bind, run_underlying ht, Result.andThen_ok, MapKept.run_getObj_map hm, hc, h1, Instr.keyThatStays]
    rw [e]
    simp only [List.getElem?_toArray, List.getElem?_cons_zero, Option.map_some, Option.getD_some, sameBits_self, if_true, Sem.run_pure, Result.andThen_ok, MapKept.run_setObj_map _ hm]

set_option maxRecDepth 100000 in
set_option maxHeartbeats 8000000 in
theorem checkFields2 (f g : Fd) (hf : f.Wf) (hg : g.Wf) (A : Nat → Addr) (b : Nat) (t : TypeId) (w : World) (B : Blk w b (pcells f g) t) (S0 : Sent1 w A) :
    Calls Tryd.prog 31 #[.slice (some ⟨b, 0, none⟩) 2 2] w fun e w' => e = .returned (errIf A 1 (okF f && okF g)) ∧ Below w.heap.size w w' := by
  have S : Hid (Sent1 w A) := Lib.hid S0
  clear S0
  have hmm := @run_makeMap Tryd.prog
  go_enter Tryd.func31, Tryd.ntmps31
  go_upto_region 2 with (fail)
  obtain ⟨W, hW⟩ : ∃ W, w.alloc (.map #[] 0) = W := ⟨_, rfl⟩
  have M : Mem w W [] := by rw [← hW]; exact (Mem.nil w).other _
  have hm : Hid (W.heap[w.heap.size]? = some (.map #[] 0)) := Lib.hid (by rw [← hW]; exact look_alloc_new _ _ _ rfl)
  have HB := Lib.hid B
  rw [hW]; clear hW B
  go_wp2_with fail
  refine wp_loop_rounds 3 ?_
  rw [rounds_succ]
  go_upto_region 4 with (fail)
  have M2 := M.alloc Tryd.zeroCells31 31
  have hz : Hid (Tryd.zeroCells31.size = 202) := Lib.hid (by rw [zeroFd, fcells_size])
  have M3 : Mem w _ [⟨W.heap.size, fcells f, 31⟩] := M2.row 0 rfl (fcells f)
  have hm3 : Hid (((W.alloc (Obj.cells Tryd.zeroCells31 31)).setRow W.heap.size (fcells f)).heap[w.heap.size]? = some (.map #[] 0)) := Lib.hid (by
    rw [look_row_other _ _ _ _ (by have := (Array.getElem?_eq_some_iff.1 hm.out).1; omega), look_alloc_old _ _ _ (by have := (Array.getElem?_eq_some_iff.1 hm.out).1; omega)]; exact hm.out)
  have BE := (HB.out.later M.below).early
  go_upto_region 5 with (first
    | (refine wpList_load_part rfl 31 _ rfl b 0 rfl (fcells f) _ BE Tryd.underlying31 rfl (by rw [fcells_size]; exact sizeFd) ?_)
    | (refine wpList_store_row rfl 31 _ _ rfl W.heap.size (fcells f) rfl rfl 31 _ (M2.at 0 rfl) (by rw [fcells_size]; exact sizeFd) (by rw [fcells_size, hz.out]) (fcells_one _) ?_))
  generalize World.setRow _ _ _ = W2 at M3 hm3 ⊢
  clear M M2 hm BE
  obtain ⟨L, hL⟩ := keyLitsField (fs := Tryd.prog.fieldsOf 31) f hf (by kernel_rfl) (by kernel_rfl) (by kernel_rfl) Tryd.underlying22 Tryd.underlying23 Tryd.underlying5 Tryd.underlying25 Tryd.underlying24 (by kernel_rfl) (by kernel_rfl) (by kernel_rfl) (by kernel_rfl) (by kernel_rfl) (by kernel_rfl)
  have hfm : (Value.agg (fcells f)).formed Tryd.prog 31 = true := by
    simp only [Value.formed, Tryd.underlying31, fcells_size]; kernel_rfl
  have hlk := run_lookup_first (P := Tryd.prog) (dd := 4) (z := .bool false) Tryd.underlying89 hm3.out (by kernel_rfl) (by omega) hfm hL ⟨_, Tryd.underlying31⟩ (by kernel_rfl)
  have hup := fun (W' : World) (h : W'.heap[w.heap.size]? = some (.map #[] 0)) => run_update_first (P := Tryd.prog) (dd := 4) (v := .bool true) Tryd.underlying89 h (by kernel_rfl) (by omega) hfm hL ⟨_, Tryd.underlying31⟩
  have hupH := Lib.hid hup
  clear hup hL hfm
  cases hok : okF f with
  | false =>
    go_wp2_with (first
      | (refine wpList_load_part rfl 31 _ rfl W.heap.size 0 rfl (fcells f) _ (M3.at 0 rfl).whole Tryd.underlying31 rfl (by rw [fcells_size]; exact sizeFd) ?_)
      | (refine wpList_load_wanted rfl 31 _ rfl W.heap.size 0 rfl (fcells f) _ (M3.at 0 rfl).whole Tryd.underlying31 rfl (by rw [fcells_size]; exact sizeFd) ?_)
      | (go_at_call 48; refine (validField_any f hf _).mono ?_; rintro e W4 ⟨rfl, hb⟩; rw [hok]; have M4 := M3.call hb; have hv1 := (S.out.later M4.below).v1))
    go_ret
    exact ⟨by rw [hok]; rfl, M4.below⟩
  | true =>
    go_upto_region 8 with (first
      | (refine wpList_load_part rfl 31 _ rfl W.heap.size 0 rfl (fcells f) _ (M3.at 0 rfl).whole Tryd.underlying31 rfl (by rw [fcells_size]; exact sizeFd) ?_)
      | (refine wpList_load_wanted rfl 31 _ rfl W.heap.size 0 rfl (fcells f) _ (M3.at 0 rfl).whole Tryd.underlying31 rfl (by rw [fcells_size]; exact sizeFd) ?_)
      | (go_at_call 48; refine (validField_any f hf _).mono ?_; rintro e W4 ⟨rfl, hb⟩; rw [hok]; have M4 := M3.call hb; have hm4 := (hb.block _ (Array.getElem?_eq_some_iff.1 hm3.out).1).trans hm3.out; have hu := hupH.out W4 hm4)
      | (refine wpList_load_part rfl 31 _ rfl W.heap.size 0 rfl (fcells f) _ (M4.at 0 rfl).whole Tryd.underlying31 rfl (by rw [fcells_size]; exact sizeFd) ?_))
    have M5 : Mem w (W4.putObj w.heap.size (.map #[{ key := .agg (fcells f), val := .bool true, born := 0 }] 1)) [] := by
      have hb5 := below_putObj (B := w.heap.size) (m := w.heap.size) (o := .map #[{ key := .agg (fcells f), val := .bool true, born := 0 }] 1) M4.below (Nat.le_refl _)
      exact ⟨hb5, (fun _ _ h => by simp at h), (fun _ _ _ _ h => by simp at h)⟩
    have hm5 : Hid ((W4.putObj w.heap.size (.map #[{ key := .agg (fcells f), val := .bool true, born := 0 }] 1)).heap[w.heap.size]? = some (.map #[{ key := .agg (fcells f), val := .bool true, born := 0 }] 1)) := Lib.hid (by
      have := (Array.getElem?_eq_some_iff.1 hm4).1
      unfold World.putObj; simp [this])
    generalize World.putObj _ _ _ = W5 at M5 hm5 ⊢
    clear hu hupH hm4 hb M4 M3 hm3
    go_wp2_with fail
    rw [rounds_succ]
    go_upto_region 4 with (fail)
    have M6 := M5.alloc Tryd.zeroCells31 31
    have hz2 : Hid (Tryd.zeroCells31.size = 202) := Lib.hid (by rw [zeroFd, fcells_size])
    have M7 : Mem w _ [⟨W5.heap.size, fcells g, 31⟩] := M6.row 0 rfl (fcells g)
    have hm7 : Hid (((W5.alloc (Obj.cells Tryd.zeroCells31 31)).setRow W5.heap.size (fcells g)).heap[w.heap.size]? = some (.map #[{ key := .agg (fcells f), val := .bool true, born := 0 }] 1)) := Lib.hid (by
      rw [look_row_other _ _ _ _ (by have := (Array.getElem?_eq_some_iff.1 hm5.out).1; omega), look_alloc_old _ _ _ (by have := (Array.getElem?_eq_some_iff.1 hm5.out).1; omega)]; exact hm5.out)
    have BL := (HB.out.later M5.below).late
    go_upto_region 5 with (first
      | (refine wpList_load_part rfl 31 _ rfl b 202 rfl (fcells g) _ BL Tryd.underlying31 rfl (by rw [fcells_size]; exact sizeFd) ?_)
      | (refine wpList_store_row rfl 31 _ _ rfl W5.heap.size (fcells g) rfl rfl 31 _ (M6.at 0 rfl) (by rw [fcells_size]; exact sizeFd) (by rw [fcells_size, hz2.out]) (fcells_one _) ?_))
    generalize World.setRow _ _ _ = W6 at M7 hm7 ⊢
    clear M5 M6 hm5 BL
    obtain ⟨L, hL⟩ := keyLitsField (fs := Tryd.prog.fieldsOf 31) g hg (by kernel_rfl) (by kernel_rfl) (by kernel_rfl) Tryd.underlying22 Tryd.underlying23 Tryd.underlying5 Tryd.underlying25 Tryd.underlying24 (by kernel_rfl) (by kernel_rfl) (by kernel_rfl) (by kernel_rfl) (by kernel_rfl) (by kernel_rfl)
    have hfm : (Value.agg (fcells g)).formed Tryd.prog 31 = true := by
      simp only [Value.formed, Tryd.underlying31, fcells_size]; kernel_rfl
    have hfind := run_find_one f g hf hg (.bool true) 0 W6
    have hupH := Lib.hid (fun (W' : World) (h : W'.heap[w.heap.size]? = some (.map #[{ key := .agg (fcells f), val := .bool true, born := 0 }] 1)) => run_update_one f g hf hg (dd := 4) Tryd.underlying89 h (by kernel_rfl) (by omega) hfm hL)
    cases hsame : feq g f with
    | true =>
      have hokg : Hid (okF g = true) := Lib.hid (by rw [okF_cells (feq_iff.1 hsame)]; exact hok)
      rw [hsame, if_pos rfl] at hfind
      have hlk : (Instr.lookup 89 (.map (some w.heap.size)) (.agg (fcells g)) false).run Tryd.prog W6 = .ok (.bool true) W6 := run_lookup_one (dd := 4) (z := .bool false) Tryd.underlying89 hm7.out (by kernel_rfl) (by omega) hfm hL hfind (by kernel_rfl)
      obtain ⟨es, c, hu⟩ := hupH.out W6 hm7.out
      clear hfind hupH hL hfm hsame
      go_upto_region 8 with (first
        | (refine wpList_load_part rfl 31 _ rfl W5.heap.size 0 rfl (fcells g) _ (M7.at 0 rfl).whole Tryd.underlying31 rfl (by rw [fcells_size]; exact sizeFd) ?_))
      have M8 : Below w.heap.size w (W6.putObj w.heap.size (.map es c)) := below_putObj (B := w.heap.size) M7.below (Nat.le_refl _)
      go_wp2_with fail
      rw [rounds_succ]
      go_wp2_with fail
      go_ret
      exact ⟨by rw [hok, hokg.out]; rfl, M8⟩
    | false =>
      rw [hsame, if_neg (by decide)] at hfind
      have hlk : (Instr.lookup 89 (.map (some w.heap.size)) (.agg (fcells g)) false).run Tryd.prog W6 = .ok (.bool false) W6 := run_lookup_one (dd := 4) (z := .bool false) Tryd.underlying89 hm7.out (by kernel_rfl) (by omega) hfm hL hfind (by kernel_rfl)
      clear hfind hL hfm hsame
      cases hokg : okF g with
      | false =>
        go_wp2_with (first
          | (refine wpList_load_part rfl 31 _ rfl W5.heap.size 0 rfl (fcells g) _ (M7.at 0 rfl).whole Tryd.underlying31 rfl (by rw [fcells_size]; exact sizeFd) ?_)
          | (refine wpList_load_wanted rfl 31 _ rfl W5.heap.size 0 rfl (fcells g) _ (M7.at 0 rfl).whole Tryd.underlying31 rfl (by rw [fcells_size]; exact sizeFd) ?_)
          | (go_at_call 48; refine (validField_any g hg _).mono ?_; rintro e W8 ⟨rfl, hb⟩; rw [hokg]; have M8 := M7.call hb; have hv1 := (S.out.later M8.below).v1))
        go_ret
        exact ⟨by rw [hok, hokg]; rfl, M8.below⟩
      | true =>
        go_upto_region 8 with (first
          | (refine wpList_load_part rfl 31 _ rfl W5.heap.size 0 rfl (fcells g) _ (M7.at 0 rfl).whole Tryd.underlying31 rfl (by rw [fcells_size]; exact sizeFd) ?_)
          | (refine wpList_load_wanted rfl 31 _ rfl W5.heap.size 0 rfl (fcells g) _ (M7.at 0 rfl).whole Tryd.underlying31 rfl (by rw [fcells_size]; exact sizeFd) ?_)
          | (go_at_call 48; refine (validField_any g hg _).mono ?_; rintro e W8 ⟨rfl, hb⟩; rw [hokg]; have M8 := M7.call hb; obtain ⟨es, c, hu⟩ := hupH.out W8 ((hb.block _ (Array.getElem?_eq_some_iff.1 hm7.out).1).trans hm7.out))
          | (refine wpList_load_part rfl 31 _ rfl W5.heap.size 0 rfl (fcells g) _ (M8.at 0 rfl).whole Tryd.underlying31 rfl (by rw [fcells_size]; exact sizeFd) ?_))
        have M9 : Below w.heap.size w (W8.putObj w.heap.size (.map es c)) := below_putObj (B := w.heap.size) M8.below (Nat.le_refl _)
        go_wp2_with fail
        rw [rounds_succ]
        go_wp2_with fail
        go_ret
        exact ⟨by rw [hok, hokg]; rfl, M9⟩
end Go.Proofs.YtddbpbibjiahgaaDoor
