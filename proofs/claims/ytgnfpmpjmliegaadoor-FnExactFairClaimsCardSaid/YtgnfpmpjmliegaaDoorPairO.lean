/-
  Two fields put together: the program's pair of them, and what it tells where they are none.
-/
import Derived.Test.YtgnfpmpjmliegaaDoorPairF
import Derived.Test.YtgnfpmpjmliegaaDoorChk3
import Derived.Test.YtgnfpmpjmliegaaDoorErrW
import Derived.Test.YtgnfpmpjmliegaaDoorRegK
import Derived.Defers
import Derived.Recover
import Derived.Laws.Pointers
namespace Go.Proofs.YtgnfpmpjmliegaaDoor
open Go Go.RowKit Go.Stop

theorem zeroP : Tryd.zeroCells59 = pcells Fd.zero Fd.zero := by kernel_rfl
theorem zrunP (w : World) : (zeroValue 59).run Tryd.prog w = .ok (.agg Tryd.zeroCells59) w := zero_run (by kernel_rfl) w
theorem run_buildSlice_two {P : Program} (w : World) (t e : TypeId) (cs ds : Array Value) (hds : ds.size = cs.size) (hu : P.underlying t = some (.slice e)) (hsz : (P.info? e).map (·.size) = some cs.size) (hz : ((P.info? e).bind (·.zero)).map (·.cells.size) = some cs.size) (hpos : 0 < cs.size) (hsmall : 2 * cs.size ≤ 2 ^ 24) :
    (Instr.buildSlice t 2 #[(0, .agg cs), (1, .agg ds)]).run P w = .ok (.slice (some ⟨w.heap.size, 0, none⟩) 2 2) (w.alloc (.cells (cs ++ ds) e)) := by
  cases hie : P.info? e with
  | none => simp [hie] at hsz
  | some ie =>
    simp only [hie, Option.map_some, Option.some.injEq, Option.bind_some] at hsz hz
    cases hzz : ie.zero with
    | none => simp [hzz] at hz
    | some z =>
      refine run_buildSlice w t e 2 _ (cs ++ ds) ie z hu hie hzz (by rw [hsz]; omega) (by rw [hsz]; omega) ?_
      have := Great.fill_whole (s := cs.size) hpos [Value.agg cs, Value.agg ds] ((Array.range (2 * ie.size)).map (z.cells[· % z.cells.size]!)) (fun v hv => by
        simp only [List.mem_cons, List.mem_nil_iff, or_false] at hv
        rcases hv with rfl | rfl
        · rfl
        · exact hds) (by simp [hsz])
      have e2 : ([Value.agg cs, Value.agg ds].flatMap fun v => v.cells.toList).toArray = cs ++ ds := by simp [Value.cells]
      rw [e2] at this
      rw [hsz] at this ⊢
      exact this
theorem wpList_buildTwo {P : Program} {ops : Array Oper} {rest : List Oper} {op : Oper} {a : Act} {w : World} {Q : Exit → Act → World → Prop} (hgd : op.guard = none) (t e : TypeId) (x y : Operand) (ho : op.op = .buildSlice t 2 #[(0, x), (1, y)]) (cs ds : Array Value) (hx : a.eval x = .agg cs) (hy : a.eval y = .agg ds) (hds : ds.size = cs.size)
    (hu : P.underlying t = some (.slice e)) (hsz : (P.info? e).map (·.size) = some cs.size) (hz : ((P.info? e).bind (·.zero)).map (·.cells.size) = some cs.size) (hpos : 0 < cs.size) (hsmall : 2 * cs.size ≤ 2 ^ 24)
    (h : wpList P ops Q rest (a.put op.dst (.slice (some ⟨w.heap.size, 0, none⟩) 2 2)) (w.alloc (.cells (cs ++ ds) e))) : wpList P ops Q (op :: rest) a w := by
  refine wpList_plain hgd fun K hK => ?_
  unfold Oper.wp execOp
  have := run_buildSlice_two (P := P) w t e cs ds hds hu hsz hz hpos hsmall
  simp only [ho, List.map_toArray, List.map_cons, List.map_nil, hx, hy, Sem.run_bind, this, Result.andThen_ok]
  exact hK _ _ h
theorem wpList_build0 {P : Program} {ops : Array Oper} {rest : List Oper} {op : Oper} {a : Act} {w : World} {Q : Exit → Act → World → Prop} (hgd : op.guard = none) (t : TypeId) (ho : op.op = .build t #[]) (v : Value) (hr : (Instr.build t #[]).run P w = .ok v w)
    (h : wpList P ops Q rest (a.put op.dst v) w) : wpList P ops Q (op :: rest) a w := by
  refine wpList_run hgd ?_ h
  unfold execOp
  simp only [ho, List.map_toArray, List.map_nil, Sem.run_bind, hr, Result.andThen_ok, Sem.run_pure]
theorem wpList_build1 {P : Program} {ops : Array Oper} {rest : List Oper} {op : Oper} {a : Act} {w : World} {Q : Exit → Act → World → Prop} (hgd : op.guard = none) (t : TypeId) (x : Operand) (ho : op.op = .build t #[(0, x)]) (u : Value) (hx : a.eval x = u) (v : Value) (hr : (Instr.build t #[(0, u)]).run P w = .ok v w)
    (h : wpList P ops Q rest (a.put op.dst v) w) : wpList P ops Q (op :: rest) a w := by
  refine wpList_run hgd ?_ h
  unfold execOp
  simp only [ho, List.map_toArray, List.map_cons, List.map_nil, hx, Sem.run_bind, hr, Result.andThen_ok, Sem.run_pure]
theorem wpList_build2 {P : Program} {ops : Array Oper} {rest : List Oper} {op : Oper} {a : Act} {w : World} {Q : Exit → Act → World → Prop} (hgd : op.guard = none) (t : TypeId) (x y : Operand) (ho : op.op = .build t #[(0, x), (1, y)]) (u1 u2 : Value) (hx : a.eval x = u1) (hy : a.eval y = u2) (v : Value) (hr : (Instr.build t #[(0, u1), (1, u2)]).run P w = .ok v w)
    (h : wpList P ops Q rest (a.put op.dst v) w) : wpList P ops Q (op :: rest) a w := by
  refine wpList_run hgd ?_ h
  unfold execOp
  simp only [ho, List.map_toArray, List.map_cons, List.map_nil, hx, hy, Sem.run_bind, hr, Result.andThen_ok, Sem.run_pure]
theorem bEarly (f : Fd) (w : World) : (Instr.build 56 #[(0, .agg (fcells f))]).run Tryd.prog w = .ok (.agg (fcells f)) w := by kernel_rfl
theorem bLate (f : Fd) (w : World) : (Instr.build 57 #[(0, .agg (fcells f))]).run Tryd.prog w = .ok (.agg (fcells f)) w := by kernel_rfl
theorem fill_congr {p q : Nat → Option (Nat × Nat)} : ∀ (l : List (Nat × Value)) (cs : Array Value), (∀ x ∈ l, p x.1 = q x.1) → Instr.fill p cs l = Instr.fill q cs l
  | [], _, _ => rfl
  | (i, v) :: r, cs, h => by
    unfold Instr.fill
    rw [h (i, v) (List.mem_cons_self ..)]
    cases q i with
    | none => rfl
    | some x =>
      obtain ⟨o, z⟩ := x
      simp only []
      split
      · rfl
      · exact fill_congr r _ (fun x hx => h x (List.mem_cons_of_mem _ hx))
theorem run_build_two {P : Program} (w : World) (t t1 t2 : TypeId) (fs : Array Field) (cs ds : Array Value) (hpos : 0 < cs.size) (hds : ds.size = cs.size) (hu : P.underlying t = some (.struct fs)) (hfs : fs.toList.map (fun x => (x.type, x.offset)) = [(t1, 0), (t2, cs.size)])
    (h1 : (P.info? t1).map (·.size) = some cs.size) (h2 : (P.info? t2).map (·.size) = some cs.size) (z : Value) (hz : ∀ w, (zeroValue t).run P w = .ok z w) (hzs : z.cells.size = 2 * cs.size) :
    (Instr.build t #[(0, .agg cs), (1, .agg ds)]).run P w = .ok (.agg (cs ++ ds)) w := by
  obtain ⟨i1, hi1, hs1⟩ := Option.map_eq_some_iff.1 h1
  obtain ⟨i2, hi2, hs2⟩ := Option.map_eq_some_iff.1 h2
  obtain ⟨l⟩ := fs
  have hlen : l.length = 2 := by have := congrArg List.length hfs; simpa using this
  match l, hlen, hfs with
  | [a, b], _, hfs =>
    simp only [List.map_cons, List.map_nil, List.cons.injEq, Prod.mk.injEq, and_true] at hfs
    obtain ⟨⟨e1, e2⟩, ⟨e3, e4⟩⟩ := hfs
    have hfill : Instr.fill ((#[(0, cs.size), (cs.size, cs.size)] : Array (Nat × Nat))[·]?) z.cells [(0, .agg cs), (1, .agg ds)] = some (cs ++ ds) := by
      rw [fill_congr (q := fun i => some (i * cs.size, cs.size)) _ _ (fun x hx => by
        simp only [List.mem_cons, List.mem_nil_iff, or_false] at hx
        rcases hx with rfl | rfl <;> simp)]
      have := Great.fill_whole (s := cs.size) hpos [Value.agg cs, Value.agg ds] z.cells (fun v hv => by
        simp only [List.mem_cons, List.mem_nil_iff, or_false] at hv
        rcases hv with rfl | rfl
        · rfl
        · exact hds) (by simp [hzs])
      have e2 : ([Value.agg cs, Value.agg ds].flatMap fun v => v.cells.toList).toArray = cs ++ ds := by simp [Value.cells]
      rw [e2] at this
      exact this
    simp only [Instr.build, Sem.run_bind, hz, Result.andThen_ok, run_underlying hu, List.mapM_toArray, List.mapM_cons, List.mapM_nil, e1, e2, e3, e4, run_sizeOf w hi1, run_sizeOf w hi2, Sem.run_pure, Sem.run_map]
    have c1 : P.cellsOf t1 = cs.size := by simp [Program.cellsOf, hi1, hs1]
    have c2 : P.cellsOf t2 = cs.size := by simp [Program.cellsOf, hi2, hs2]
    rw [c1, c2, hfill, Sem.run_pure]
theorem bPair (f g : Fd) (w : World) : (Instr.build 59 #[(0, .agg (fcells f)), (1, .agg (fcells g))]).run Tryd.prog w = .ok (.agg (pcells f g)) w :=
  run_build_two w 59 56 57 (Tryd.prog.fieldsOf 59) (fcells f) (fcells g) (by rw [fcells_size]; omega) (by rw [fcells_size, fcells_size]) (by kernel_rfl) (by rw [fcells_size]; kernel_rfl) (by rw [fcells_size]; exact sizeEa) (by rw [fcells_size]; exact sizeLa) (.agg Tryd.zeroCells59) zrunP (by
    show Tryd.zeroCells59.size = _
    rw [zeroP, pcells_size, fcells_size])
theorem bNoField (a : Addr) (w : World) : (Instr.build 93 #[(0, errVal a)]).run Tryd.prog w = .ok (.agg #[errVal a]) w := by kernel_rfl
theorem bNoPair (w : World) : (Instr.build 78 #[]).run Tryd.prog w = .ok (.agg #[]) w := by kernel_rfl

set_option maxRecDepth 100000 in
set_option maxHeartbeats 4000000 in
theorem pairFrom_ok (f g : Fd) (hf : f.Wf) (hg : g.Wf) (hok : (okF f && okF g) = true) (A : Nat → Addr) (w : World) (S0 : Sents w A) : Calls Tryd.prog 36 #[.agg (fcells f), .agg (fcells g)] w fun e w' => e = .returned (.agg (pcells f g)) ∧ Below w.heap.size w w' := by
  have S := Lib.hid S0
  clear S0
  have hif := isIfaceErr
  have hok' := Lib.hid hok
  clear hok
  go_enter Tryd.func36, Tryd.ntmps36
  go_upto_region 1 with (fail)
  obtain ⟨W, hW, M⟩ := open3 w (fcells f) 32 (fcells g) 32 Tryd.zeroCells59 59
  rw [hW]; clear hW
  have ok1 : True := trivial
  have ok2 : True := trivial
  go_upto_region 2 with (first
    | (clear ok1; (refine wpList_load_part rfl 32 _ rfl w.heap.size 0 rfl (fcells f) _ (M.at 0 rfl).whole Tryd.underlying32 rfl (by rw [fcells_size]; exact sizeFd) ?_))
    | (clear ok2; (refine wpList_load_part rfl 32 _ rfl (w.heap.size + 1) 0 rfl (fcells g) _ (M.at 1 rfl).whole Tryd.underlying32 rfl (by rw [fcells_size]; exact sizeFd) ?_))
    | (refine wpList_buildTwo rfl 106 32 _ _ rfl (fcells f) (fcells g) rfl rfl (by rw [fcells_size, fcells_size]) Tryd.underlying106 (by rw [fcells_size]; exact sizeFd) (by rw [fcells_size]; kernel_rfl) (by rw [fcells_size]; omega) (by rw [fcells_size]; omega) ?_)
    | (go_at_call 48; refine (checkFields2 f g hf hg A _ _ _ (Blk.new _ (pcells f g) _) (S.out.later (M.alloc _ _).below).one).mono ?_; rintro e W2 ⟨rfl, hb⟩; rw [hok'.out, errIf_true]; have M2 := (M.alloc _ _).call hb; clear hb))
  have M3 : Mem w W2 [⟨w.heap.size, fcells f, 32⟩, ⟨w.heap.size + 1, fcells g, 32⟩, ⟨w.heap.size + 1 + 1, Tryd.zeroCells59, 59⟩] := M2.init
  clear M M2
  have hzp : Hid (Tryd.zeroCells59.size = 404) := Lib.hid (by rw [zeroP, pcells_size])
  have ok1 : True := trivial
  have ok2 : True := trivial
  have ok3 : True := trivial
  have ok4 : True := trivial
  have ok5 : True := trivial
  go_wp2_with (first
    | (clear ok1; (refine wpList_load_part rfl 32 _ rfl w.heap.size 0 rfl (fcells f) _ (M3.at 0 rfl).whole Tryd.underlying32 rfl (by rw [fcells_size]; exact sizeFd) ?_))
    | (clear ok2; refine wpList_build1 rfl 56 _ rfl (.agg (fcells f)) rfl _ (bEarly f _) ?_)
    | (clear ok3; (refine wpList_load_part rfl 32 _ rfl (w.heap.size + 1) 0 rfl (fcells g) _ (M3.at 1 rfl).whole Tryd.underlying32 rfl (by rw [fcells_size]; exact sizeFd) ?_))
    | (clear ok4; refine wpList_build1 rfl 57 _ rfl (.agg (fcells g)) rfl _ (bLate g _) ?_)
    | (clear ok5; refine wpList_build2 rfl 59 _ _ rfl (.agg (fcells f)) (.agg (fcells g)) rfl rfl _ (bPair f g _) ?_)
    | (refine wpList_store_row rfl 59 _ _ rfl (w.heap.size + 1 + 1) (pcells f g) rfl rfl 59 _ (M3.at 2 rfl) (by rw [pcells_size]; exact sizeP) (by rw [pcells_size, hzp.out]) (pcells_one _ _) ?_))
  have M4 := M3.row 2 rfl (pcells f g)
  exact bodyPost_ret (results_cell_row rfl _ _ (w.heap.size + 1 + 1) 59 _ _ _ rfl (M4.at 2 rfl) Tryd.underlying59 rfl (by rw [pcells_size]; exact sizeP)) rfl ⟨rfl, M4.below⟩
end Go.Proofs.YtgnfpmpjmliegaaDoor
