/-
  A map of the call's own whose keys are nets: what is looked up, what is stored.
  validNets: all nets are valid for a field that is; the checks of the model's.
-/
import Derived.Test.YtniibbgcdaijfaaDoorNetB
import Derived.Test.YtniibbgcdaijfaaDoorMapKey
import Derived.DeepKeys4
import Derived.Below
import Derived.Test.YtniibbgcdaijfaaDoorFlkIn
import Derived.OwnWalk
import Derived.Maps.OwnOps
import Derived.Outline
import Derived.RangeFuncRecord
namespace Go.Proofs.YtniibbgcdaijfaaDoor
section
open Go Go.RowKit

theorem keyLitsNet {P : Program} {t t8 : TypeId} {fs : Array Field} (a : Nat → Int) (ha : WfN a) (hu : P.underlying t = some (.struct fs)) (hfs : fs.toList.map (fun x => (x.type, x.offset)) = [(t8, 0), (t8, 1), (t8, 2), (t8, 3)]) (hn : fs.all (·.name != "_") = true)
    (h8 : P.underlying t8 = some (.int .i8)) (hct : P.cellsOf t = 4) (hc8 : P.cellsOf t8 = 1) (D : Nat) : ∃ L, P.keyLits (D + 2) t [.int .i8 (a 0), .int .i8 (a 1), .int .i8 (a 2), .int .i8 (a 3)] = some L := by
  obtain ⟨l⟩ := fs
  have hlen : l.length = 4 := by have := congrArg List.length hfs; simpa using this
  match l, hlen, hfs, hn with
  | [b, c, d, e], _, hfs, hn =>
    simp only [List.map_cons, List.map_nil, List.cons.injEq, Prod.mk.injEq, and_true] at hfs
    obtain ⟨⟨t0, o0⟩, ⟨t1, o1⟩, ⟨t2, o2⟩, ⟨t3, o3⟩⟩ := hfs
    unfold Program.keyLits
    simp only [hu]
    rw [if_pos ⟨by rw [hct]; rfl, hn⟩]
    simp only [List.mapM_cons, List.mapM_nil, t0, o0, t1, o1, t2, o2, t3, o3, hc8, List.drop, List.take, keyLitsInt h8 (lit_i8 ha.b0) D, keyLitsInt h8 (lit_i8 ha.b1) D, keyLitsInt h8 (lit_i8 ha.b2) D, keyLitsInt h8 (lit_i8 ha.b3) D]
    exact ⟨_, rfl⟩
theorem keyOf_of_lits {P : Program} {k : TypeId} {fs : Array Field} {xs : Array Value} {L : List Lit} (hu : P.underlying k = some (.struct fs)) (hk : P.keyType k = true) (hf : (Value.agg xs).formed P k = true) (hl : P.keyLits (P.types.size + 1) k xs.toList = some L) : ∃ l, keyOf P k (.agg xs) = some l := by
  refine ⟨.string (keyBytes L), ?_⟩
  unfold keyOf
  simp only [hu, hk, hf, Bool.and_self, if_true, Value.cells, hl, Option.map_some]
theorem keyNet (a : Nat → Int) (ha : WfN a) : ∃ l, keyOf Tryd.prog 56 (vNet a) = some l := by
  have hu : Tryd.prog.underlying 56 = some (.struct (Tryd.prog.fieldsOf 56)) := by kernel_rfl
  have hs : ∃ D, Tryd.prog.types.size + 1 = D + 2 := ⟨Tryd.prog.types.size - 1, by
    have h0 : decide (1 ≤ Tryd.prog.types.size) = true := by kernel_rfl
    have := of_decide_eq_true h0
    omega⟩
  obtain ⟨D, hD⟩ := hs
  obtain ⟨L, hL⟩ := keyLitsNet (P := Tryd.prog) (t8 := 22) a ha hu (by kernel_rfl) (by kernel_rfl) Tryd.underlying22 (by kernel_rfl) (by kernel_rfl) D
  refine keyOf_of_lits hu (by kernel_rfl) ?_ (L := L) (by rw [hD]; exact hL)
  simp only [Value.formed, hu]
  kernel_rfl
theorem laidB : laidOutB Tryd.prog = true := by kernel_rfl
theorem netLaw : WideMaps.KeyLaw Tryd.prog 56 := deep_law_laid (m := 4) laidB (by omega) (of_decide_eq_true (by kernel_rfl)) (by kernel_rfl) (by kernel_rfl)
/-- An entry of a net that fits. -/
def GoodE (f : Fd) (e : MapEntry) : Prop := e.val = .bool true ∧ ∃ a, WfN a ∧ e.key = vNet a ∧ netOk f a = true
theorem netOk_congr {f : Fd} {a b : Nat → Int} (h0 : a 0 = b 0) (h1 : a 1 = b 1) (h2 : a 2 = b 2) (h3 : a 3 = b 3) : netOk f a = netOk f b := by
  unfold netOk treeFree netIn insA
  rw [h0, h1, h2, h3]
theorem good_key {f : Fd} {e : MapEntry} {a : Nat → Int} (h : GoodE f e) (hk : e.key = vNet a) : netOk f a = true := by
  obtain ⟨_, b, _, hb, hok⟩ := h
  rw [hk] at hb
  have h2 : (#[.int .i8 (a 0), .int .i8 (a 1), .int .i8 (a 2), .int .i8 (a 3)] : Array Value) = #[.int .i8 (b 0), .int .i8 (b 1), .int .i8 (b 2), .int .i8 (b 3)] := by injection hb
  simp only [Array.mk.injEq, List.cons.injEq, Value.int.injEq, true_and, and_true] at h2
  obtain ⟨e0, e1, e2, e3⟩ := h2
  rw [netOk_congr e0 e1 e2 e3]; exact hok
theorem run_lookup_net (f : Fd) (a : Nat → Int) (ha : WfN a) {w : World} {m : Nat} {es : Array MapEntry} {clock : Nat} (hm : w.heap[m]? = some (.map es clock)) (hes : ∀ e ∈ es.toList, GoodE f e) :
    ∃ b, (Instr.lookup 103 (.map (some m)) (vNet a) false).run Tryd.prog w = .ok (.bool b) w ∧ (b = true → netOk f a = true) := by
  obtain ⟨l, hl⟩ := keyNet a ha
  have hc := netLaw.check w es.isEmpty hl
  have hz : (zeroValue 4).run Tryd.prog w = .ok (.bool false) w := by kernel_rfl
  rcases netLaw.find w hl es.toList (fun e he => by obtain ⟨_, b, hb, hk, _⟩ := hes e he; rw [hk]; exact keyNet b hb) with ⟨h1, _⟩ | ⟨j, e, h1, h2, h3⟩
  · refine ⟨false, ?_, fun h => by cases h⟩
    simp [Instr.lookup, run_underlying Tryd.underlying103, MapKept.run_getObj_map hm, hc, h1, hz, Result.andThen]
  · have hg := hes e (List.mem_of_getElem? h2)
    refine ⟨true, ?_, fun _ => good_key hg h3⟩
    simp [Instr.lookup, run_underlying Tryd.underlying103, MapKept.run_getObj_map hm, hc, h1, Result.andThen]
    exact hg.1
theorem run_update_net (f : Fd) (a : Nat → Int) (ha : WfN a) (hok : netOk f a = true) {w : World} {m : Nat} {es : Array MapEntry} {clock : Nat} (hm : w.heap[m]? = some (.map es clock)) (hes : ∀ e ∈ es.toList, GoodE f e) :
    ∃ es' clock', (Instr.mapUpdate 103 (.map (some m)) (vNet a) (.bool true)).run Tryd.prog w = .ok () (w.putObj m (.map es' clock')) ∧ ∀ e ∈ es'.toList, GoodE f e := by
  obtain ⟨l, hl⟩ := keyNet a ha
  have hc := netLaw.check w false hl
  rcases netLaw.find w hl es.toList (fun e he => by obtain ⟨_, b, hb, hk, _⟩ := hes e he; rw [hk]; exact keyNet b hb) with ⟨h1, _⟩ | ⟨j, e, h1, h2, h3⟩
  · refine ⟨es.push { key := vNet a, val := .bool true, born := clock }, clock + 1, ?_, fun e he => ?_⟩
    · unfold World.putObj
      simp [Instr.mapUpdate, run_underlying Tryd.underlying103, MapKept.run_getObj_map hm, hc, h1, MapKept.run_setObj_map _ hm, Result.andThen]
    · rw [Array.toList_push, List.mem_append] at he
      rcases he with he | he
      · exact hes e he
      · obtain rfl : e = { key := vNet a, val := .bool true, born := clock } := by simpa using he
        exact ⟨rfl, a, ha, rfl, hok⟩
  · have hj : es[j]? = some e := by rw [← Array.getElem?_toList]; exact h2
    have hst := netLaw.stays w hl
    refine ⟨es.modify j fun e => { e with key := vNet a, val := .bool true }, clock, ?_, fun e' he => ?_⟩
    · unfold World.putObj
      simp [Instr.mapUpdate, run_underlying Tryd.underlying103, MapKept.run_getObj_map hm, hc, h1, hj, h3, hst, MapKept.run_setObj_map _ hm, Result.andThen]
    · obtain ⟨i, hi, rfl⟩ := List.getElem_of_mem he
      rw [Array.getElem_toList, Array.getElem_modify]
      split
      · exact ⟨rfl, a, ha, rfl, hok⟩
      · exact hes _ (by simp)
end
section
open Go Go.RowKit

theorem putObj_at {w : World} {m : Nat} {o o' : Obj} (h : w.heap[m]? = some o) : (w.putObj m o').heap[m]? = some o' := by
  have hlt := (Array.getElem?_eq_some_iff.1 h).1
  unfold World.putObj
  simp [hlt]
theorem blk_putObj {w : World} {b m : Nat} {cs : Array Value} {t : TypeId} {o : Obj} (h : Blk w b cs t) (hne : b ≠ m) : Blk (w.putObj m o) b cs t :=
  (World.putObj_heap_other (by omega)).trans h
def netsOk (f : Fd) (n : Nat) (F : Nat → Nat → Int) : Bool := allTo n (fun i => netOk f (F i))
set_option maxRecDepth 100000 in
set_option maxHeartbeats 4000000 in
theorem validNets_some (f : Fd) (hf : f.Wf) (hok : okF f = true) (n : Nat) (hn : n ≤ 2 ^ 40) (F : Nat → Nat → Int) (hF : ∀ i, i < n → WfN (F i)) (b o c : Nat) (w : World) (I : InS w b o n ksNet F) :
    Calls Tryd.prog 37 #[.agg (fcells f), .slice (some ⟨b, o, none⟩) n c] w fun e w' => e = .returned (.bool (netsOk f n F)) ∧ Below w.heap.size w w' := by
  have HI := Lib.hid I
  have HF := Lib.hid hF
  clear I hF
  obtain ⟨hW1, hW2, hH1, hH2⟩ := okF_size hok
  have hmm := @run_makeMap Tryd.prog
  go_enter Tryd.func37, Tryd.ntmps37
  go_upto_region 1 with (fail)
  obtain ⟨W, hW, M⟩ := open1 w (fcells f) 34
  rw [hW]; clear hW
  have hs := M.below.size
  go_upto_region 2 with (first
    | (refine wpList_load_part rfl 34 _ rfl w.heap.size 0 rfl (fcells f) _ (M.at 0 rfl).whole Tryd.underlying34 rfl (by rw [fcells_size]; exact sizeFd) ?_)
    | (go_at_call 60; refine (fitFor_any f hf hok _).mono ?_; rintro e W2 ⟨b0, b1, rfl, hb0, hb1, B0, B1, hb⟩; have M2 := M.call hb; clear M))
  obtain ⟨W3, hW3⟩ : ∃ W3, W2.alloc (.map #[] 0) = W3 := ⟨_, rfl⟩
  have hm3 : Hid (∃ es clock, W3.heap[W2.heap.size]? = some (.map es clock) ∧ ∀ e ∈ es.toList, GoodE f e) := Lib.hid ⟨#[], 0, by rw [← hW3]; exact look_alloc_new _ _ _ rfl, fun e he => by simp at he⟩
  have hs2 := hb.size
  have D0 : Hid (Blk W3 b0 (fcells f) 34) := Lib.hid (by rw [← hW3]; exact B0.alloc _)
  have D1 : Hid (Blk W3 b1 (acells .u64 2 (treeSet f)) 38) := Lib.hid (by rw [← hW3]; exact B1.alloc _)
  have l0 : b0 < W2.heap.size := B0.lt
  have l1 : b1 < W2.heap.size := B1.lt
  have hb3 : Hid (Below w.heap.size w W3) := Lib.hid (by rw [← hW3]; exact M2.below.alloc (by omega) _)
  have hs3 : W2.heap.size < W3.heap.size := by rw [← hW3]; simp
  rw [hW3]
  obtain ⟨m, hm⟩ : ∃ m, W2.heap.size = m := ⟨_, rfl⟩
  rw [hm] at hm3 l0 l1 hs3 ⊢
  have hwm : w.heap.size ≤ m := by omega
  clear M2 B0 B1 hb hW3
  go_wp2_with fail
  go_loopw [14] (fun i wr => ∃ k : Nat, k ≤ n ∧ i = .int .i64 k ∧ Hid (Blk wr b0 (fcells f) 34) ∧ Hid (Blk wr b1 (acells .u64 2 (treeSet f)) 38) ∧
    Hid (∃ es clock, wr.heap[m]? = some (.map es clock) ∧ ∀ e ∈ es.toList, GoodE f e) ∧ Hid (∀ j, j < k → netOk f (F j) = true) ∧ Hid (Below w.heap.size w wr) ∧ m < wr.heap.size) (fun i _ => n - (intOf i).toNat)
  case atStart => exact ⟨0, by omega, rfl, D0, D1, hm3, Lib.hid (fun j hj => by omega), hb3, hs3⟩
  case round =>
    clear D0 D1 hm3 hb3 hs3
    obtain ⟨k, hk, rfl, D0, D1, hm3, hall, hb3, hs3⟩ := hrel
    by_cases hlt : k < n
    · have hr : wr.rangeAt b (o + k * 4) (#[.int .i8 (F k 0), .int .i8 (F k 1), .int .i8 (F k 2), .int .i8 (F k 3)] : Array Value).toList := HI.out.elem (ks := ksNet) (by decide) hb3.out hlt
      have hwf := HF.out k hlt
      go_upto_region 5 with (refine wpList_load_part rfl 56 _ rfl b (o + k * 4) rfl #[.int .i8 (F k 0), .int .i8 (F k 1), .int .i8 (F k 2), .int .i8 (F k 3)] _ hr Tryd.underlying56 rfl (by kernel_rfl) ?_)
      clear hr
      obtain ⟨bp, hbp⟩ : ∃ bp, wr.heap.size = bp := ⟨_, rfl⟩
      have P5 : Blk (wr.alloc (.cells #[.int .i8 (F k 0), .int .i8 (F k 1), .int .i8 (F k 2), .int .i8 (F k 3)] 56)) bp #[.int .i8 (F k 0), .int .i8 (F k 1), .int .i8 (F k 2), .int .i8 (F k 3)] 56 := by rw [← hbp]; exact Blk.new _ _ _
      have D0 := Lib.hid (D0.out.alloc (.cells #[.int .i8 (F k 0), .int .i8 (F k 1), .int .i8 (F k 2), .int .i8 (F k 3)] 56))
      have D1 := Lib.hid (D1.out.alloc (.cells #[.int .i8 (F k 0), .int .i8 (F k 1), .int .i8 (F k 2), .int .i8 (F k 3)] 56))
      have hb5 := Lib.hid (hb3.out.alloc hb3.out.size (.cells #[.int .i8 (F k 0), .int .i8 (F k 1), .int .i8 (F k 2), .int .i8 (F k 3)] 56))
      have hs5 : m < (wr.alloc (.cells #[.int .i8 (F k 0), .int .i8 (F k 1), .int .i8 (F k 2), .int .i8 (F k 3)] 56)).heap.size := by simp; omega
      have hm5 : ∃ es clock, (wr.alloc (.cells #[.int .i8 (F k 0), .int .i8 (F k 1), .int .i8 (F k 2), .int .i8 (F k 3)] 56)).heap[m]? = some (.map es clock) ∧ ∀ e ∈ es.toList, GoodE f e := by
        obtain ⟨es, clock, h1, h2⟩ := hm3.out
        exact ⟨es, clock, by rw [look_alloc_old _ _ _ (by omega)]; exact h1, h2⟩
      rw [hbp]
      generalize wr.alloc (.cells #[.int .i8 (F k 0), .int .i8 (F k 1), .int .i8 (F k 2), .int .i8 (F k 3)] 56) = W5 at P5 D0 D1 hb5 hs5 hm5 ⊢
      clear hm3 hb3 hs3
      obtain ⟨es, clock, hme, hes⟩ := hm5
      obtain ⟨bq, hlk, himp⟩ := run_lookup_net f (F k) hwf hme hes
      have hes := Lib.hid hes
      have himp := Lib.hid himp
      cases hq : netOk f (F k) with
      | false =>
        have hx : Hid (netsOk f n F = false) := Lib.hid (allTo_false hlt hq)
        obtain rfl : bq = false := by
          cases bq with
          | false => rfl
          | true => rw [himp.out rfl] at hq; cases hq
        go_wp2_with (first
          | (go_at_call 81; refine (fit_closure f hf hW2 hH2 (F k) hwf b0 b1 _ D0.out D1.out).mono ?_; rintro e W6 ⟨rfl, hb6⟩; rw [hq]; clear hlk P5; go_wp2_with fail)
          | (refine wpList_load_part rfl 56 _ rfl bp 0 rfl #[.int .i8 (F k 0), .int .i8 (F k 1), .int .i8 (F k 2), .int .i8 (F k 3)] _ P5.whole Tryd.underlying56 rfl (by kernel_rfl) ?_) | (refine wpList_load_wanted rfl 56 _ rfl bp 0 rfl #[.int .i8 (F k 0), .int .i8 (F k 1), .int .i8 (F k 2), .int .i8 (F k 3)] _ P5.whole Tryd.underlying56 rfl (by kernel_rfl) ?_))
        go_ret
        exact ⟨by rw [hx.out]; rfl, hb5.out.trans (hb6.mono hb5.out.size)⟩
      | true =>
        have hq0 : Hid (netOk f (F k) = true) := Lib.hid hq
        have hup : Hid (∀ W6 : World, W6.heap[m]? = some (.map es clock) → ∃ es' clock', (Instr.mapUpdate 103 (.map (some m)) (vNet (F k)) (.bool true)).run Tryd.prog W6 = .ok () (W6.putObj m (.map es' clock')) ∧ ∀ e ∈ es'.toList, GoodE f e) := Lib.hid (fun W6 h => run_update_net f (F k) hwf hq h hes.out)
        cases bq with
        | false =>
          go_wp2_with (first
            | (go_at_call 81; refine (fit_closure f hf hW2 hH2 (F k) hwf b0 b1 _ D0.out D1.out).mono ?_; rintro e W6 ⟨rfl, hb6⟩; rw [hq]; have P6 := P5.later hb6; obtain ⟨es', clock', hu6, hes'⟩ := hup.out W6 (by rw [hb6.block _ hs5]; exact hme); have hes' := Lib.hid hes'; clear hlk P5; go_wp2_with (refine wpList_load_part rfl 56 _ rfl bp 0 rfl #[.int .i8 (F k 0), .int .i8 (F k 1), .int .i8 (F k 2), .int .i8 (F k 3)] _ P6.whole Tryd.underlying56 rfl (by kernel_rfl) ?_))
            | (refine wpList_load_part rfl 56 _ rfl bp 0 rfl #[.int .i8 (F k 0), .int .i8 (F k 1), .int .i8 (F k 2), .int .i8 (F k 3)] _ P5.whole Tryd.underlying56 rfl (by kernel_rfl) ?_) | (refine wpList_load_wanted rfl 56 _ rfl bp 0 rfl #[.int .i8 (F k 0), .int .i8 (F k 1), .int .i8 (F k 2), .int .i8 (F k 3)] _ P5.whole Tryd.underlying56 rfl (by kernel_rfl) ?_))
          have hm6 : W6.heap[m]? = some (.map es clock) := by rw [hb6.block _ hs5]; exact hme
          go_roundw
          case rel =>
            refine ⟨k + 1, by omega, by go_num, Lib.hid ?_, Lib.hid ?_, Lib.hid ⟨es', clock', putObj_at hm6, hes'.out⟩, Lib.hid (upto_succ hall.out hq0.out), Lib.hid (below_putObj (hb5.out.trans (hb6.mono hb5.out.size)) hwm), ?_⟩
            · exact (blk_putObj (D0.out.later hb6) (by omega))
            · exact (blk_putObj (D1.out.later hb6) (by omega))
            · have := hb6.size; simp; omega
          case measure => simp [intOf]; omega
        | true =>
          obtain ⟨es', clock', hu6, hes'⟩ := hup.out W5 hme
          have hes' := Lib.hid hes'
          go_wp2_with (first
            | (refine wpList_load_part rfl 56 _ rfl bp 0 rfl #[.int .i8 (F k 0), .int .i8 (F k 1), .int .i8 (F k 2), .int .i8 (F k 3)] _ P5.whole Tryd.underlying56 rfl (by kernel_rfl) ?_) | (refine wpList_load_wanted rfl 56 _ rfl bp 0 rfl #[.int .i8 (F k 0), .int .i8 (F k 1), .int .i8 (F k 2), .int .i8 (F k 3)] _ P5.whole Tryd.underlying56 rfl (by kernel_rfl) ?_))
          go_roundw
          case rel =>
            refine ⟨k + 1, by omega, by go_num, Lib.hid ?_, Lib.hid ?_, Lib.hid ⟨es', clock', putObj_at hme, hes'.out⟩, Lib.hid (upto_succ hall.out hq0.out), Lib.hid (below_putObj hb5.out hwm), ?_⟩
            · exact (blk_putObj D0.out (by omega))
            · exact (blk_putObj D1.out (by omega))
            · simp; omega
          case measure => simp [intOf]; omega
    · obtain rfl : k = n := by omega
      have hx : Hid (netsOk f k F = true) := Lib.hid (allTo_iff.2 hall.out)
      go_wp2_with fail
      go_ret
      exact ⟨by rw [hx.out]; rfl, hb3.out⟩
end
end Go.Proofs.YtniibbgcdaijfaaDoor
