/-
  The program's check of flocks and fears.
-/
import Derived.Test.YtaioflkonpommaaDoorChkB
import Derived.WideKeyRuns
namespace Go.Proofs.YtaioflkonpommaaDoor
open Go Go.RowKit

theorem zip_selfE {α : Type} : ∀ (l : List α) (p : α × α), p ∈ l.zip l → p.1 = p.2 ∧ p.1 ∈ l
  | [], p, h => by simp at h
  | x :: l, p, h => by
    rw [List.zip_cons_cons] at h
    rcases List.mem_cons.1 h with rfl | h
    · exact ⟨rfl, List.mem_cons_self ..⟩
    · obtain ⟨h1, h2⟩ := zip_selfE l p h
      exact ⟨h1, List.mem_cons_of_mem _ h2⟩
theorem sameBitsE (f : Nat → Int) : Instr.sameBits 10000 (.agg (acells .i16 100 f)) (.agg (acells .i16 100 f)) = true := by
  unfold Instr.sameBits
  rw [Bool.and_eq_true]
  refine ⟨by simp, List.all_eq_true.2 (fun p hp => ?_)⟩
  obtain ⟨x, y⟩ := p
  obtain ⟨h1, h2⟩ := zip_selfE _ _ hp
  simp only at h1 h2
  subst h1
  have : ∃ k n, x = .int k n := by
    simp only [acells, List.mem_map, List.mem_range] at h2
    obtain ⟨i, _, rfl⟩ := h2
    exact ⟨_, _, rfl⟩
  obtain ⟨k, n, rfl⟩ := this
  simp [Instr.sameBits]
theorem run_find_oneE (f g : Nat → Int) (hf : Wf16 f) (hg : Wf16 g) (v : Value) (c : Nat) (w : World) : (Instr.findKey 36 (.agg (acells .i16 100 g)) [{ key := .agg (acells .i16 100 f), val := v, born := c }]).run Tryd.prog w = .ok (if req 100 g f = true then some (0, v) else none) w := by
  have h0 := run_findKey_eq (P := Tryd.prog) (w := w) (k := 36) (by rw [Tryd.underlying36]) (.agg (acells .i16 100 g)) [{ key := .agg (acells .i16 100 f), val := v, born := c }]
  rw [h0]
  have := run_equalIn_fears g f hg hf w
  cases h : req 100 g f with
  | true => rw [h] at this; simp [Instr.findAsking, Op.equal, Op.maxDepth, this]
  | false => rw [h] at this; simp [Instr.findAsking, Op.equal, Op.maxDepth, this]
theorem run_lookup_oneE {P : Program} {t k e : TypeId} {w : World} {m : Nat} {key z : Value} {x : MapEntry} {L : List Lit} {D dd : Nat} {r : Option (Nat × Value)} (ht : P.underlying t = some (.map k e)) (hm : w.heap[m]? = some (.map #[x] 1)) (hk : P.keyTypeAt dd k = true) (hdd : dd ≤ 10000)
    (hf : key.formed P k = true) (hL : P.keyLits D k key.cells.toList = some L) (hr : (Instr.findKey k key [x]).run P w = .ok r w) (hz : (zeroValue e).run P w = .ok z w) :
    (Instr.lookup t (.map (some m)) key false).run P w = .ok (match r with | some p => p.2 | none => z) w := by
  have hc : (Instr.checkKey false 10000 k key).run P w = .ok () w := by
    have := run_checkKey_deep (P := P) false (10000 - dd) dd k hk w D key L hf hL
    rwa [show 10000 - dd + dd = 10000 by omega] at this
  cases r with
  | none => simp [Instr.lookup, run_underlying ht, MapKept.run_getObj_map hm, hc, hr, hz, Result.andThen]
  | some p => simp [Instr.lookup, run_underlying ht, MapKept.run_getObj_map hm, hc, hr, Result.andThen]
theorem run_update_oneE (f g : Nat → Int) (hf : Wf16 f) (hg : Wf16 g) {t e : TypeId} {w : World} {m : Nat} {L : List Lit} {D dd : Nat} (ht : Tryd.prog.underlying t = some (.map 36 e)) (hm : w.heap[m]? = some (.map #[{ key := .agg (acells .i16 100 f), val := .bool true, born := 0 }] 1)) (hk : Tryd.prog.keyTypeAt dd 36 = true) (hdd : dd ≤ 10000)
    (hfm : (Value.agg (acells .i16 100 g)).formed Tryd.prog 36 = true) (hL : Tryd.prog.keyLits D 36 (Value.agg (acells .i16 100 g)).cells.toList = some L) :
    ∃ es c, (Instr.mapUpdate t (.map (some m)) (.agg (acells .i16 100 g)) (.bool true)).run Tryd.prog w = .ok () (w.putObj m (.map es c)) := by
  have hc : (Instr.checkKey false 10000 36 (.agg (acells .i16 100 g))).run Tryd.prog w = .ok () w := by
    have := run_checkKey_deep (P := Tryd.prog) false (10000 - dd) dd 36 hk w D _ L hfm hL
    rwa [show 10000 - dd + dd = 10000 by omega] at this
  have h1 := run_find_oneE f g hf hg (.bool true) 0 w
  unfold World.putObj
  cases h : req 100 g f with
  | false =>
    rw [h] at h1
    simp only [Bool.false_eq_true, if_false] at h1
    refine ⟨(#[{ key := .agg (acells .i16 100 f), val := .bool true, born := 0 }] : Array MapEntry).push { key := .agg (acells .i16 100 g), val := .bool true, born := 1 }, 1 + 1, ?_⟩
    simp only [Instr.mapUpdate, Sem.run_bind, run_underlying ht, Result.andThen_ok, MapKept.run_getObj_map hm, hc, h1, MapKept.run_setObj_map _ hm]
  | true =>
    rw [h] at h1
    simp only [if_true] at h1
    have e : acells .i16 100 g = acells .i16 100 f := (req_iff (k := .i16)).1 h
    refine ⟨(#[{ key := .agg (acells .i16 100 f), val := .bool true, born := 0 }] : Array MapEntry).modify 0 (fun e => { e with key := .agg (acells .i16 100 g), val := .bool true }), 1, ?_⟩
    simp only [Instr.mapUpdate, Sem.run_bind, run_underlying ht, Result.andThen_ok, MapKept.run_getObj_map hm, hc, h1, Instr.keyThatStays]
    rw [e]
    simp only [List.getElem?_toArray, List.getElem?_cons_zero, Option.map_some, Option.getD_some, sameBitsE, if_true, Sem.run_pure, Result.andThen_ok, MapKept.run_setObj_map _ hm]
theorem zero_fears (f : Fd) {g : Nat → Int} (h : req 100 g (fun _ => 0) = true) : allTo 100 (fearOk f g) = true := by
  have e := acells_inj ((req_iff (k := .i16)).1 h)
  refine allTo_iff.2 (fun i hi => ?_)
  have := e i hi
  unfold fearOk
  rw [this]
  cases isCell f (i : Int) <;> rfl
set_option maxRecDepth 100000 in
set_option maxHeartbeats 8000000 in
theorem checkBirds1 (f : Fd) (hf : f.Wf) (n : Nat) (hn : n ≤ 2 ^ 40) (F : Nat → Nat → Int) (hF : WfS ksFlock n F) (g : Nat → Int) (hg : Wf16 g) (A : Nat → Addr) (d c eb : Nat) (te : TypeId) (w : World) (T0 : TabAt w) (S0 : Sents w A) (I0 : InS w d 0 n ksFlock F) (E0 : Blk w eb (acells .i16 100 g) te) :
    Calls Tryd.prog 44 #[.agg (fcells f), .slice (some ⟨d, 0, none⟩) n c, .slice (some ⟨eb, 0, none⟩) 1 1] w fun e w' => e = .returned (errIf A 1 (okFlocks f n F && allTo 100 (fearOk f g))) ∧ Below w.heap.size w w' := by
  have S := Lib.hid S0
  have T := Lib.hid T0
  have I := Lib.hid I0
  have HE := Lib.hid E0
  clear S0 T0 I0 E0
  have hmm := @run_makeMap Tryd.prog
  cases hok : okFlocks f n F with
  | false =>
    rw [Bool.false_and]
    go_enter Tryd.func44, Tryd.ntmps44
    go_upto_region 1 with (fail)
    obtain ⟨W, hW, M⟩ := open1 w (fcells f) 30
    rw [hW]; clear hW
    go_wp2_with (first
      | (refine wpList_load_part rfl 30 _ rfl w.heap.size 0 rfl (fcells f) _ (M.at 0 rfl).whole Tryd.underlying30 rfl (by rw [fcells_size]; exact sizeFd) ?_)
      | (go_at_call 69; refine (implValidFlocks f hf n hn F hF d c _ (T.out.later M.below) (I.out.later M.below)).mono ?_; rintro e W2 ⟨rfl, hb⟩; rw [hok]; have M2 := M.call hb; have hv1 := (S.out.later M2.below).v1))
    go_ret
    exact ⟨rfl, M2.below⟩
  | true =>
    rw [Bool.true_and]
    have hokF : Hid (okF f = true) := Lib.hid (by
      unfold okFlocks at hok
      simp only [Bool.and_eq_true] at hok
      exact hok.1.1)
    go_enter Tryd.func44, Tryd.ntmps44
    go_upto_region 1 with (fail)
    obtain ⟨W, hW, M⟩ := open1 w (fcells f) 30
    rw [hW]; clear hW
    go_upto_region 3 with (first
      | (refine wpList_load_part rfl 30 _ rfl w.heap.size 0 rfl (fcells f) _ (M.at 0 rfl).whole Tryd.underlying30 rfl (by rw [fcells_size]; exact sizeFd) ?_)
      | (go_at_call 69; refine (implValidFlocks f hf n hn F hF d c _ (T.out.later M.below) (I.out.later M.below)).mono ?_; rintro e W2 ⟨rfl, hb⟩; rw [hok]; have M2 := M.call hb; clear hb))
    have hlit0 : ∀ i, i < 100 → (Lit.int .i16 ((fun _ => 0 : Nat → Int) i)).wf = true := fun _ _ => (by decide : (Lit.int .i16 0).wf = true)
    obtain ⟨L, hL⟩ := keyLitsRow (P := Tryd.prog) (f := fun _ => (0 : Int)) Tryd.underlying36 Tryd.underlying24 (by kernel_rfl) (by kernel_rfl) hlit0 2
    have hfm : (Value.agg (acells .i16 100 (fun _ => 0))).formed Tryd.prog 36 = true := by
      simp only [Value.formed, Tryd.underlying36, acells_size]; kernel_rfl
    have hup := fun (W' : World) (h : W'.heap[W2.heap.size]? = some (.map #[] 0)) => run_update_first (P := Tryd.prog) (dd := 4) (v := .bool true) Tryd.underlying113 h (by kernel_rfl) (by omega) hfm hL ⟨_, Tryd.underlying36⟩
    have hupH := Lib.hid hup
    clear hup hL hfm hlit0
    have hm0 : Hid ((W2.alloc (.map #[] 0)).heap[W2.heap.size]? = some (.map #[] 0)) := Lib.hid (look_alloc_new _ _ _ rfl)
    have hmw : w.heap.size ≤ W2.heap.size := M2.below.size
    obtain ⟨mb, hmb⟩ : ∃ mb, mb = W2.heap.size := ⟨_, rfl⟩
    go_upto_region 4 with (go_at_call 70; refine (calmFears_any _).mono ?_; rintro e W4 ⟨rfl, hb⟩; have hm4 : Hid (W4.heap[W2.heap.size]? = some (.map #[] 0)) := Lib.hid (by rw [hb.block _ (Array.getElem?_eq_some_iff.1 hm0.out).1]; exact hm0.out); have hu := hupH.out W4 hm4.out; have M4 := (M2.other (.map #[] 0)).call hb; clear hb)
    have M5 : Mem w (W4.putObj W2.heap.size (.map #[{ key := .agg (acells .i16 100 (fun _ => 0)), val := .bool true, born := 0 }] 1)) [⟨w.heap.size, fcells f, 30⟩] := M4.taken hmw hm4.out rfl
    have hm5 : Hid ((W4.putObj W2.heap.size (.map #[{ key := .agg (acells .i16 100 (fun _ => 0)), val := .bool true, born := 0 }] 1)).heap[W2.heap.size]? = some (.map #[{ key := .agg (acells .i16 100 (fun _ => 0)), val := .bool true, born := 0 }] 1)) := Lib.hid (by
      have := (Array.getElem?_eq_some_iff.1 hm4.out).1
      unfold World.putObj; simp [this])
    generalize World.putObj _ _ _ = W5 at M5 hm5 ⊢
    rw [← hmb] at hm5 hmw ⊢
    clear hmb hu hupH hm4 M4 hm0 M2
    go_wp2_with fail
    refine wp_loop_rounds 2 ?_
    rw [rounds_succ]
    go_upto_region 6 with (fail)
    have M6 := M5.alloc Tryd.zeroCells36 36
    have hz2 : Hid (Tryd.zeroCells36.size = 100) := Lib.hid (by rw [zeroE, acells_size])
    have M7 : Mem w _ [⟨w.heap.size, fcells f, 30⟩, ⟨W5.heap.size, acells .i16 100 g, 36⟩] := M6.row 1 rfl (acells .i16 100 g)
    have hm7 : Hid (((W5.alloc (Obj.cells Tryd.zeroCells36 36)).setRow W5.heap.size (acells .i16 100 g)).heap[mb]? = some (.map #[{ key := .agg (acells .i16 100 (fun _ => 0)), val := .bool true, born := 0 }] 1)) := Lib.hid (by
      rw [look_row_other _ _ _ _ (by have := (Array.getElem?_eq_some_iff.1 hm5.out).1; omega), look_alloc_old _ _ _ (by have := (Array.getElem?_eq_some_iff.1 hm5.out).1; omega)]; exact hm5.out)
    have BL := HE.out.later M5.below
    go_upto_region 7 with (first
      | (refine wpList_load_part rfl 36 _ rfl eb 0 rfl (acells .i16 100 g) _ BL.whole Tryd.underlying36 rfl (by rw [acells_size]; exact sizeE) ?_)
      | (refine wpList_store_row rfl 36 _ _ rfl W5.heap.size (acells .i16 100 g) rfl rfl 36 _ (M6.at 1 rfl) (by rw [acells_size]; exact sizeE) (by rw [acells_size, hz2.out]) (acells_one _ _ _) ?_))
    obtain ⟨gb, hgb⟩ : ∃ gb, gb = W5.heap.size := ⟨_, rfl⟩
    rw [← hgb] at M7 hm7 ⊢
    generalize World.setRow _ _ _ = W6 at M7 hm7 ⊢
    clear hgb M5 M6 hm5 BL
    obtain ⟨L, hL⟩ := keyLitsRow (P := Tryd.prog) (f := g) Tryd.underlying36 Tryd.underlying24 (by kernel_rfl) (by kernel_rfl) (fun i hi => lit_i16 (hg i hi)) 2
    have hfm : (Value.agg (acells .i16 100 g)).formed Tryd.prog 36 = true := by
      simp only [Value.formed, Tryd.underlying36, acells_size]; kernel_rfl
    have hgz : Wf16 (fun _ => 0) := fun _ _ => ⟨by show (-32768 : Int) ≤ 0; decide, by show (0 : Int) ≤ 32767; decide⟩
    have hfind := run_find_oneE (fun _ => 0) g hgz hg (.bool true) 0 W6
    have hupH := Lib.hid (fun (W' : World) (h : W'.heap[mb]? = some (.map #[{ key := .agg (acells .i16 100 (fun _ => 0)), val := .bool true, born := 0 }] 1)) => run_update_oneE (fun _ => 0) g hgz hg (dd := 4) Tryd.underlying113 h (by kernel_rfl) (by omega) hfm hL)
    have ok1 : True := trivial
    have ok2 : True := trivial
    have ok3 : True := trivial
    have hld : ∀ W, Mem w W [⟨w.heap.size, fcells f, 30⟩, ⟨gb, acells .i16 100 g, 36⟩] → W.rangeAt gb 0 (acells .i16 100 g).toList := fun W M => (M.at 1 rfl).whole
    cases hsame : req 100 g (fun _ => 0) with
    | true =>
      have hokg : Hid (allTo 100 (fearOk f g) = true) := Lib.hid (zero_fears f hsame)
      rw [hsame, if_pos rfl] at hfind
      have hlk : (Instr.lookup 113 (.map (some mb)) (.agg (acells .i16 100 g)) false).run Tryd.prog W6 = .ok (.bool true) W6 := run_lookup_oneE (dd := 4) (z := .bool false) Tryd.underlying113 hm7.out (by kernel_rfl) (by omega) hfm hL hfind (by kernel_rfl)
      obtain ⟨es, c5, hu⟩ := hupH.out W6 hm7.out
      clear hfind hupH hL hfm hsame
      go_upto_region 10 with (first
        | (refine wpList_load_part rfl 36 _ rfl gb 0 rfl (acells .i16 100 g) _ (hld _ M7) Tryd.underlying36 rfl (by rw [acells_size]; exact sizeE) ?_))
      have M8 : Below w.heap.size w (W6.putObj mb (.map es c5)) := below_putObj (B := w.heap.size) M7.below hmw
      go_wp2_with fail
      rw [rounds_succ]
      go_wp2_with fail
      go_ret
      exact ⟨by rw [hokg.out]; rfl, M8⟩
    | false =>
      rw [hsame, if_neg (by decide)] at hfind
      have hlk : (Instr.lookup 113 (.map (some mb)) (.agg (acells .i16 100 g)) false).run Tryd.prog W6 = .ok (.bool false) W6 := run_lookup_oneE (dd := 4) (z := .bool false) Tryd.underlying113 hm7.out (by kernel_rfl) (by omega) hfm hL hfind (by kernel_rfl)
      clear hfind hL hfm hsame
      cases hokg : allTo 100 (fearOk f g) with
      | false =>
        go_wp2_with (first
          | (clear ok1; refine wpList_load_part rfl 36 _ rfl gb 0 rfl (acells .i16 100 g) _ (hld _ M7) Tryd.underlying36 rfl (by rw [acells_size]; exact sizeE) ?_)
          | (clear ok2; refine wpList_load_wanted rfl 36 _ rfl gb 0 rfl (acells .i16 100 g) _ (hld _ M7) Tryd.underlying36 rfl (by rw [acells_size]; exact sizeE) ?_)
          | (clear ok3; refine wpList_load_wanted rfl 30 _ rfl w.heap.size 0 rfl (fcells f) _ (M7.at 0 rfl).whole Tryd.underlying30 rfl (by rw [fcells_size]; exact sizeFd) ?_)
          | (go_at_call 71; refine (fit_any f hokF.out g hg _).mono ?_; rintro e W8 ⟨rfl, hb⟩; rw [hokg]; have M8 := M7.call hb; have hv1 := (S.out.later M8.below).v1))
        go_ret
        exact ⟨by rw [hokg]; rfl, M8.below⟩
      | true =>
        go_upto_region 9 with (first
          | (clear ok1; refine wpList_load_part rfl 36 _ rfl gb 0 rfl (acells .i16 100 g) _ (hld _ M7) Tryd.underlying36 rfl (by rw [acells_size]; exact sizeE) ?_)
          | (clear ok2; refine wpList_load_wanted rfl 36 _ rfl gb 0 rfl (acells .i16 100 g) _ (hld _ M7) Tryd.underlying36 rfl (by rw [acells_size]; exact sizeE) ?_)
          | (clear ok3; refine wpList_load_wanted rfl 30 _ rfl w.heap.size 0 rfl (fcells f) _ (M7.at 0 rfl).whole Tryd.underlying30 rfl (by rw [fcells_size]; exact sizeFd) ?_)
          | (go_at_call 71; refine (fit_any f hokF.out g hg _).mono ?_; rintro e W8 ⟨rfl, hb⟩; rw [hokg]; have M8 := M7.call hb; obtain ⟨es, c5, hu⟩ := hupH.out W8 ((hb.block _ (Array.getElem?_eq_some_iff.1 hm7.out).1).trans hm7.out)))
        go_upto_region 10 with (refine wpList_load_part rfl 36 _ rfl gb 0 rfl (acells .i16 100 g) _ (hld _ M8) Tryd.underlying36 rfl (by rw [acells_size]; exact sizeE) ?_)
        have M9 : Below w.heap.size w (W8.putObj mb (.map es c5)) := below_putObj (B := w.heap.size) M8.below hmw
        go_wp2_with fail
        rw [rounds_succ]
        go_wp2_with fail
        go_ret
        exact ⟨by rw [hokg]; rfl, M9⟩
end Go.Proofs.YtaioflkonpommaaDoor
