/-
  Two fields put together, and the owners of the one before: the pair, or why there is none.
-/
import Derived.Test.YtgnfpmpjmliegaaDoorPairE
import Derived.Test.YtgnfpmpjmliegaaDoorOwn
namespace Go.Proofs.YtgnfpmpjmliegaaDoor
open Go Go.RowKit Go.Stop Go.Extern.Stop

theorem load_errI (b off : Nat) (v : Value) (w : World) (c : w.cell? ⟨b, off, none⟩ = some v) : (Instr.loadAt 48 (.pointer (some ⟨b, off, none⟩))).run Tryd.prog w = .ok v w := by
  simp [go_sem, c]
theorem store_err (b : Nat) (x : Addr) (u : Value) (w : World) (c : w.cell? ⟨b, 0, none⟩ = some u) (fz : w.frozen? ⟨b, 0, none⟩ = false) : (Instr.storeAt 48 (.pointer (some ⟨b, 0, none⟩)) (errVal x)).run Tryd.prog w = .ok () (w.setCell ⟨b, 0, none⟩ (errVal x)) := by
  unfold errVal
  simp [go_sem, c, fz]
section
variable {P : Program} {ops : Array Oper} {Q : Exit → Act → World → Prop} {K : Act → World → Prop} {a : Act} {w w' : World} {i : Nat} {o : Oper}
/-- One operation of a region that draws its order, where all orders are walked one by one. -/
theorem any_val (v : Value) (d : Nat) (ho : ops[i]? = some o) (hd : o.dst = some d) (hg : o.guard = none) (hr : (execOp a.eval o).run P w = .ok (.value v) w') (h : K (a.put (some d) v) w') : wpOp P ops Q i K a w := by
  have hw : Region.wanted o (yielded ops a.tmps) = true := by simp [Region.wanted, hg]
  unfold wpOp
  rw [ho]
  simp only [hw, if_true]
  refine .inl ?_
  unfold Oper.wp
  rw [hr]
  rw [← hd] at h
  exact h
theorem any_skip (ho : ops[i]? = some o) (hg : o.guard = none) (hr : (execOp a.eval o).run P w = .ok .skip w') (h : K (a.put o.dst undef) w') : wpOp P ops Q i K a w := by
  have hw : Region.wanted o (yielded ops a.tmps) = true := by simp [Region.wanted, hg]
  unfold wpOp
  rw [ho]
  simp only [hw, if_true]
  refine .inl ?_
  unfold Oper.wp
  rw [hr]
  exact h
theorem exec_build0 {ev : Operand → Value} {t : TypeId} {v : Value} (ho : o.op = .build t #[]) (hr : (Instr.build t #[]).run P w = .ok v w) : (execOp ev o).run P w = .ok (.value v) w := by
  unfold execOp; simp only [ho, List.map_toArray, List.map_nil, Sem.run_bind, hr, Result.andThen_ok, Sem.run_pure]
theorem exec_load {ev : Operand → Value} {ty : TypeId} {x : Operand} {p v : Value} (ho : o.op = .load ty x) (hx : ev x = p) (hr : (Instr.loadAt ty p).run P w = .ok v w) : (execOp ev o).run P w = .ok (.value v) w := by
  unfold execOp; simp only [ho, hx, Sem.run_bind, hr, Result.andThen_ok, Sem.run_pure]
theorem exec_store {ev : Operand → Value} {ty : TypeId} {x y : Operand} {p v : Value} (ho : o.op = .store ty x y) (hx : ev x = p) (hy : ev y = v) (hr : (Instr.storeAt ty p v).run P w = .ok () w') : (execOp ev o).run P w = .ok .skip w' := by
  unfold execOp; simp only [ho, hx, hy, Sem.run_bind, hr, Result.andThen_ok, Sem.run_pure]
theorem one_of {j : Nat} {p : Nat → Prop} (h : p j) : ∀ i ∈ [j], p i := fun i hi => by
  have : i = j := by simpa using hi
  subst this; exact h
theorem two_of {j k : Nat} {p : Nat → Prop} (h : p j) (h2 : p k) : ∀ i ∈ [j, k], p i := fun i hi => by
  simp only [List.mem_cons, List.mem_nil_iff, or_false] at hi
  rcases hi with rfl | rfl
  · exact h
  · exact h2
end
set_option maxRecDepth 100000 in
set_option maxHeartbeats 8000000 in
theorem pairOf1_ok (f g : Fd) (hf : f.Wf) (hg : g.Wf) (hok : (okF f && okF g) = true) (hp : (sameKB f g && lessB f g) = true) (o : Nat → Int) (ho : WfO o) (hfit : ownFit f o = true) (bs : Nat) (A : Nat → Addr) (w : World) (BS : Blk w bs (acells .i8 100 o) 34) (S0 : Sents w A) : Calls Tryd.prog 25 #[.agg (fcells f), .agg (fcells g), .slice (some ⟨bs, 0, none⟩) 1 1] w fun e w' => e = .returned (.tuple #[.agg (pcells f g), .nilIface]) ∧ Below w.heap.size w w' := by
  have S := Lib.hid S0
  clear S0
  have hmf : ∀ (fn : Fn) (first cap : Array Value) (w : World), (Instr.makeFunc fn first cap).run Tryd.prog w = .ok (.func fn first cap) w := fun _ _ _ _ => rfl
  have h1 : okF f = true := by simp only [Bool.and_eq_true] at hok; exact hok.1
  have h2 : okF g = true := by simp only [Bool.and_eq_true] at hok; exact hok.2
  have H1 := Lib.hid h1
  have H2 := Lib.hid h2
  have HP := Lib.hid hp
  have HOK := Lib.hid hok
  have HO := Lib.hid ho
  have HFIT := Lib.hid hfit
  have HBS := Lib.hid BS
  clear h1 h2 hp hok ho hfit BS
  go_enter_defers Tryd.func25, Tryd.ntmps25
  go_upto_region 1 with (fail)
  obtain ⟨W, hW, M⟩ := open4 w (fcells f) 32 (fcells g) 32 Tryd.zeroCells59 59 #[.nilIface] 48
  rw [hW]; clear hW
  have hzp : Hid (Tryd.zeroCells59.size = 404) := Lib.hid (by rw [zeroP, pcells_size])
  have ok1 : True := trivial
  have ok2 : True := trivial
  go_upto_region 3 with (first
    | (clear ok1; (refine wpList_load_part rfl 32 _ rfl w.heap.size 0 rfl (fcells f) _ (M.at 0 rfl).whole Tryd.underlying32 rfl (by rw [fcells_size]; exact sizeFd) ?_))
    | (clear ok2; (refine wpList_load_part rfl 32 _ rfl (w.heap.size + 1) 0 rfl (fcells g) _ (M.at 1 rfl).whole Tryd.underlying32 rfl (by rw [fcells_size]; exact sizeFd) ?_))
    | (go_at_call 36; refine (pairFrom_ok f g hf hg HOK.out A _ (S.out.later M.below)).mono ?_; rintro e W2 ⟨rfl, hb⟩; have M2 := M.call hb; clear hb)
    | (refine wpList_store_row rfl 59 _ _ rfl (w.heap.size + 1 + 1) (pcells f g) rfl rfl 59 _ (M2.at 2 rfl) (by rw [pcells_size]; exact sizeP) (by rw [pcells_size, hzp.out]) (pcells_one _ _) ?_))
  have M3 := M2.row 2 rfl (pcells f g)
  clear M M2
  generalize World.setRow _ _ _ = W3 at M3 ⊢
  have hzo : Hid (Tryd.zeroCells34.size = 100) := Lib.hid (by rw [zeroO, acells_size])
  have BO := (HBS.out.later M3.below).whole
  have M4 := M3.alloc Tryd.zeroCells34 34
  go_wp2_with fail
  refine wp_loop_rounds 2 ?_
  rw [rounds_succ]
  go_upto_region 6 with (first
    | (refine wpList_load_part rfl 34 _ rfl bs 0 rfl (acells .i8 100 o) _ BO Tryd.underlying34 rfl (by rw [acells_size]; exact sizeOw) ?_)
    | (refine wpList_store_row rfl 34 _ _ rfl W3.heap.size (acells .i8 100 o) rfl rfl 34 _ (M4.at 4 rfl) (by rw [acells_size]; exact sizeOw) (by rw [acells_size, hzo.out]) (acells_one _ _ _) ?_))
  have M5 := M4.row 4 rfl (acells .i8 100 o)
  obtain ⟨b9, hb9⟩ : ∃ b9, b9 = W3.heap.size := ⟨_, rfl⟩
  rw [← hb9] at M5 ⊢
  generalize World.setRow _ _ _ = W5 at M5 ⊢
  clear hb9 M4 M3 BO
  go_upto_region 8 with (first
    | (refine wpList_load_part rfl 34 _ rfl b9 0 rfl (acells .i8 100 o) _ (M5.at 4 rfl).whole Tryd.underlying34 rfl (by rw [acells_size]; exact sizeOw) ?_)
    | (refine wpList_load_part rfl 32 _ rfl w.heap.size 0 rfl (fcells f) _ (M5.at 0 rfl).whole Tryd.underlying32 rfl (by rw [fcells_size]; exact sizeFd) ?_)
    | (go_at_call 37; refine (fit_any f H1.out o HO.out _).mono ?_; rintro e W6 ⟨rfl, hb⟩; rw [HFIT.out]; have M3 := M5.call hb; clear hb))
  clear M5
  go_wp2_with fail
  rw [rounds_succ]
  go_wp2_with (first
    | (refine wpList_load_part rfl 59 _ rfl (w.heap.size + 1 + 1) 0 rfl (pcells f g) _ (M3.at 2 rfl).whole Tryd.underlying59 rfl (by rw [pcells_size]; exact sizeP) ?_)
    | (go_at_call 38; refine (fits_any f g hf hg H1.out H2.out _).mono ?_; rintro e W4 ⟨rfl, hb⟩; rw [HP.out]; have M4 := M3.call hb; clear hb)
    | (refine wpList_load_part rfl 59 _ rfl (w.heap.size + 1 + 1) 0 rfl (pcells f g) _ (M4.at 2 rfl).whole Tryd.underlying59 rfl (by rw [pcells_size]; exact sizeP) ?_)
    | (refine wpList_store_row rfl 59 _ _ rfl (w.heap.size + 1 + 1) (pcells f g) rfl rfl 59 _ (M4.at 2 rfl) (by rw [pcells_size]; exact sizeP) rfl (pcells_one _ _) ?_; have M5 := M4.row 2 rfl (pcells f g); have d0 := (M5.at 3 rfl).cell (i := 0) (v := .nilIface) rfl; have e0 := (M5.at 3 rfl).free 0))
  have M6 := M5.set 3 0 .nilIface rfl #[.nilIface] rfl
  refine leaves_cons (f := 35) (args := #[.pointer (some ⟨w.heap.size + 1 + 1, 0, none⟩), .pointer (some ⟨w.heap.size + 1 + 1 + 1, 0, none⟩)]) (by simp) (by simp [go_sem]) ?_
  refine (catch_idle _ _ _).mono ?_
  rintro e u' w'' ⟨rfl, rfl, rfl⟩
  exact ⟨_, results_row_one rfl _ _ (w.heap.size + 1 + 1) (w.heap.size + 1 + 1 + 1) 59 _ .nilIface _ rfl rfl (M6.at 2 rfl) Tryd.underlying59 rfl (by rw [pcells_size]; exact sizeP) (loadVar_err _ _ _ ((M6.at 3 rfl).cell (i := 0) rfl)), rfl, M6.below⟩
set_option maxRecDepth 100000 in
set_option maxHeartbeats 8000000 in
theorem pairOf1_no (f g : Fd) (hf : f.Wf) (hg : g.Wf) (hok : (okF f && okF g) = true) (hp : (sameKB f g && lessB f g) = false) (o : Nat → Int) (ho : WfO o) (hfit : ownFit f o = true) (bs : Nat) (A : Nat → Addr) (w : World) (BS : Blk w bs (acells .i8 100 o) 34) (S0 : Sents w A) : Calls Tryd.prog 25 #[.agg (fcells f), .agg (fcells g), .slice (some ⟨bs, 0, none⟩) 1 1] w fun e w' => e = .returned (.tuple #[.agg (pcells Fd.zero Fd.zero), pairErr]) ∧ Below w.heap.size w w' := by
  have S := Lib.hid S0
  clear S0
  have hmf : ∀ (fn : Fn) (first cap : Array Value) (w : World), (Instr.makeFunc fn first cap).run Tryd.prog w = .ok (.func fn first cap) w := fun _ _ _ _ => rfl
  have h1 : okF f = true := by simp only [Bool.and_eq_true] at hok; exact hok.1
  have h2 : okF g = true := by simp only [Bool.and_eq_true] at hok; exact hok.2
  have H1 := Lib.hid h1
  have H2 := Lib.hid h2
  have HP := Lib.hid hp
  have HOK := Lib.hid hok
  have HO := Lib.hid ho
  have HFIT := Lib.hid hfit
  have HBS := Lib.hid BS
  clear h1 h2 hp hok ho hfit BS
  go_enter_defers Tryd.func25, Tryd.ntmps25
  go_upto_region 1 with (fail)
  obtain ⟨W, hW, M⟩ := open4 w (fcells f) 32 (fcells g) 32 Tryd.zeroCells59 59 #[.nilIface] 48
  rw [hW]; clear hW
  have hzp : Hid (Tryd.zeroCells59.size = 404) := Lib.hid (by rw [zeroP, pcells_size])
  have ok1 : True := trivial
  have ok2 : True := trivial
  go_upto_region 3 with (first
    | (clear ok1; (refine wpList_load_part rfl 32 _ rfl w.heap.size 0 rfl (fcells f) _ (M.at 0 rfl).whole Tryd.underlying32 rfl (by rw [fcells_size]; exact sizeFd) ?_))
    | (clear ok2; (refine wpList_load_part rfl 32 _ rfl (w.heap.size + 1) 0 rfl (fcells g) _ (M.at 1 rfl).whole Tryd.underlying32 rfl (by rw [fcells_size]; exact sizeFd) ?_))
    | (go_at_call 36; refine (pairFrom_ok f g hf hg HOK.out A _ (S.out.later M.below)).mono ?_; rintro e W2 ⟨rfl, hb⟩; have M2 := M.call hb; clear hb)
    | (refine wpList_store_row rfl 59 _ _ rfl (w.heap.size + 1 + 1) (pcells f g) rfl rfl 59 _ (M2.at 2 rfl) (by rw [pcells_size]; exact sizeP) (by rw [pcells_size, hzp.out]) (pcells_one _ _) ?_))
  have M3 := M2.row 2 rfl (pcells f g)
  clear M M2
  generalize World.setRow _ _ _ = W3 at M3 ⊢
  have hzo : Hid (Tryd.zeroCells34.size = 100) := Lib.hid (by rw [zeroO, acells_size])
  have BO := (HBS.out.later M3.below).whole
  have M4 := M3.alloc Tryd.zeroCells34 34
  go_wp2_with fail
  refine wp_loop_rounds 2 ?_
  rw [rounds_succ]
  go_upto_region 6 with (first
    | (refine wpList_load_part rfl 34 _ rfl bs 0 rfl (acells .i8 100 o) _ BO Tryd.underlying34 rfl (by rw [acells_size]; exact sizeOw) ?_)
    | (refine wpList_store_row rfl 34 _ _ rfl W3.heap.size (acells .i8 100 o) rfl rfl 34 _ (M4.at 4 rfl) (by rw [acells_size]; exact sizeOw) (by rw [acells_size, hzo.out]) (acells_one _ _ _) ?_))
  have M5 := M4.row 4 rfl (acells .i8 100 o)
  obtain ⟨b9, hb9⟩ : ∃ b9, b9 = W3.heap.size := ⟨_, rfl⟩
  rw [← hb9] at M5 ⊢
  generalize World.setRow _ _ _ = W5 at M5 ⊢
  clear hb9 M4 M3 BO
  go_upto_region 8 with (first
    | (refine wpList_load_part rfl 34 _ rfl b9 0 rfl (acells .i8 100 o) _ (M5.at 4 rfl).whole Tryd.underlying34 rfl (by rw [acells_size]; exact sizeOw) ?_)
    | (refine wpList_load_part rfl 32 _ rfl w.heap.size 0 rfl (fcells f) _ (M5.at 0 rfl).whole Tryd.underlying32 rfl (by rw [fcells_size]; exact sizeFd) ?_)
    | (go_at_call 37; refine (fit_any f H1.out o HO.out _).mono ?_; rintro e W6 ⟨rfl, hb⟩; rw [HFIT.out]; have M3 := M5.call hb; clear hb))
  clear M5
  go_wp2_with fail
  rw [rounds_succ]
  go_wp2_with (first
    | (refine wpList_load_part rfl 59 _ rfl (w.heap.size + 1 + 1) 0 rfl (pcells f g) _ (M3.at 2 rfl).whole Tryd.underlying59 rfl (by rw [pcells_size]; exact sizeP) ?_)
    | (go_at_call 38; refine (fits_any f g hf hg H1.out H2.out _).mono ?_; rintro e W4 ⟨rfl, hb⟩; rw [HP.out]; have M4 := M3.call hb; clear hb)
    | (refine wpList_build0 rfl 59 rfl (.agg Tryd.zeroCells59) (bZeroP _) ?_)
    | (refine wpList_build0 rfl 78 rfl (.agg #[]) (bNoPair _) ?_)
    | (refine wpList_store_row rfl 59 _ _ rfl (w.heap.size + 1 + 1) Tryd.zeroCells59 rfl rfl 59 _ (M4.at 2 rfl) (by rw [hzp.out]; exact sizeP) (by rw [hzp.out, pcells_size]) (by rw [zeroP]; exact pcells_one _ _) ?_; have M5 := M4.row 2 rfl Tryd.zeroCells59; have d0 := (M5.at 3 rfl).cell (i := 0) (v := .nilIface) rfl; have e0 := (M5.at 3 rfl).free 0))
  have M6 := M5.set 3 0 pairErr rfl #[pairErr] rfl
  refine leaves_cons (f := 35) (args := #[.pointer (some ⟨w.heap.size + 1 + 1, 0, none⟩), .pointer (some ⟨w.heap.size + 1 + 1 + 1, 0, none⟩)]) (by simp) (by simp [go_sem]) ?_
  refine (catch_idle _ _ _).mono ?_
  rintro e u' w'' ⟨rfl, rfl, rfl⟩
  exact ⟨_, results_row_one rfl _ _ (w.heap.size + 1 + 1) (w.heap.size + 1 + 1 + 1) 59 _ pairErr _ rfl rfl (M6.at 2 rfl) Tryd.underlying59 rfl (by rw [hzp.out]; exact sizeP) (loadVar_err _ _ _ ((M6.at 3 rfl).cell (i := 0) rfl)), by rw [zeroP], M6.below⟩
set_option maxRecDepth 100000 in
set_option maxHeartbeats 8000000 in
theorem pairOf1_own (f g : Fd) (hf : f.Wf) (hg : g.Wf) (hok : (okF f && okF g) = true) (o : Nat → Int) (ho : WfO o) (hfit : ownFit f o = false) (bs : Nat) (A : Nat → Addr) (w : World) (BS : Blk w bs (acells .i8 100 o) 34) (S0 : Sents w A) : Calls Tryd.prog 25 #[.agg (fcells f), .agg (fcells g), .slice (some ⟨bs, 0, none⟩) 1 1] w fun e w' => e = .returned (.tuple #[.agg (pcells Fd.zero Fd.zero), errVal (A 1)]) ∧ Below w.heap.size w w' := by
  have S := Lib.hid S0
  clear S0
  have hmf : ∀ (fn : Fn) (first cap : Array Value) (w : World), (Instr.makeFunc fn first cap).run Tryd.prog w = .ok (.func fn first cap) w := fun _ _ _ _ => rfl
  have h1 : okF f = true := by simp only [Bool.and_eq_true] at hok; exact hok.1
  have h2 : okF g = true := by simp only [Bool.and_eq_true] at hok; exact hok.2
  have H1 := Lib.hid h1
  have H2 := Lib.hid h2
  have HOK := Lib.hid hok
  have HO := Lib.hid ho
  have HFIT := Lib.hid hfit
  have HBS := Lib.hid BS
  clear h1 h2 hok ho hfit BS
  go_enter_defers Tryd.func25, Tryd.ntmps25
  go_upto_region 1 with (fail)
  obtain ⟨W, hW, M⟩ := open4 w (fcells f) 32 (fcells g) 32 Tryd.zeroCells59 59 #[.nilIface] 48
  rw [hW]; clear hW
  have hzp : Hid (Tryd.zeroCells59.size = 404) := Lib.hid (by rw [zeroP, pcells_size])
  have ok1 : True := trivial
  have ok2 : True := trivial
  go_upto_region 3 with (first
    | (clear ok1; (refine wpList_load_part rfl 32 _ rfl w.heap.size 0 rfl (fcells f) _ (M.at 0 rfl).whole Tryd.underlying32 rfl (by rw [fcells_size]; exact sizeFd) ?_))
    | (clear ok2; (refine wpList_load_part rfl 32 _ rfl (w.heap.size + 1) 0 rfl (fcells g) _ (M.at 1 rfl).whole Tryd.underlying32 rfl (by rw [fcells_size]; exact sizeFd) ?_))
    | (go_at_call 36; refine (pairFrom_ok f g hf hg HOK.out A _ (S.out.later M.below)).mono ?_; rintro e W2 ⟨rfl, hb⟩; have M2 := M.call hb; clear hb)
    | (refine wpList_store_row rfl 59 _ _ rfl (w.heap.size + 1 + 1) (pcells f g) rfl rfl 59 _ (M2.at 2 rfl) (by rw [pcells_size]; exact sizeP) (by rw [pcells_size, hzp.out]) (pcells_one _ _) ?_))
  have M3 := M2.row 2 rfl (pcells f g)
  clear M M2
  generalize World.setRow _ _ _ = W3 at M3 ⊢
  have hzo : Hid (Tryd.zeroCells34.size = 100) := Lib.hid (by rw [zeroO, acells_size])
  have BO := (HBS.out.later M3.below).whole
  have M4 := M3.alloc Tryd.zeroCells34 34
  go_wp2_with fail
  refine wp_loop_rounds 2 ?_
  rw [rounds_succ]
  go_upto_region 6 with (first
    | (refine wpList_load_part rfl 34 _ rfl bs 0 rfl (acells .i8 100 o) _ BO Tryd.underlying34 rfl (by rw [acells_size]; exact sizeOw) ?_)
    | (refine wpList_store_row rfl 34 _ _ rfl W3.heap.size (acells .i8 100 o) rfl rfl 34 _ (M4.at 4 rfl) (by rw [acells_size]; exact sizeOw) (by rw [acells_size, hzo.out]) (acells_one _ _ _) ?_))
  have M5 := M4.row 4 rfl (acells .i8 100 o)
  obtain ⟨b9, hb9⟩ : ∃ b9, b9 = W3.heap.size := ⟨_, rfl⟩
  rw [← hb9] at M5 ⊢
  generalize World.setRow _ _ _ = W5 at M5 ⊢
  clear hb9 M4 M3 BO
  go_upto_region 7 with (first
    | (refine wpList_load_part rfl 34 _ rfl b9 0 rfl (acells .i8 100 o) _ (M5.at 4 rfl).whole Tryd.underlying34 rfl (by rw [acells_size]; exact sizeOw) ?_)
    | (refine wpList_load_part rfl 32 _ rfl w.heap.size 0 rfl (fcells f) _ (M5.at 0 rfl).whole Tryd.underlying32 rfl (by rw [fcells_size]; exact sizeFd) ?_)
    | (go_at_call 37; refine (fit_any f H1.out o HO.out _).mono ?_; rintro e W6 ⟨rfl, hb⟩; rw [HFIT.out]; have M3 := M5.call hb; clear hb))
  clear M5
  have M4 := M3.drew
  have hv1 := (S.out.later M4.below).v1
  have M5 := M4.cells 2 0 Tryd.zeroCells59.toList rfl Tryd.zeroCells59 ((M4.at 2 rfl).over Tryd.zeroCells59 (by rw [hzp.out, pcells_size]))
  have hv2 := (S.out.later M5.below).v1
  have d0 := (M5.at 3 rfl).cell (i := 0) (v := .nilIface) rfl
  have e0 := (M5.at 3 rfl).free 0
  have xl : ∀ W, W.cell? ⟨1, 0, none⟩ = some (errVal (A 1)) → (Instr.loadAt 48 (.pointer (some ⟨1, 0, none⟩))).run Tryd.prog W = .ok (errVal (A 1)) W := fun W c => load_errI _ _ _ W c
  have xs := run_storeAt_mid (P := Tryd.prog) W6.drew (w.heap.size + 1 + 1) 0 59 Tryd.zeroCells59 ((M4.at 2 rfl).there 0 _ (by rw [pcells_size, hzp.out]; omega)) (by rw [hzp.out]; exact sizeP) (by rw [zeroP]; exact pcells_one _ _)
  have xe := store_err (w.heap.size + 1 + 1 + 1) (A 1) .nilIface _ d0 e0
  generalize W6.drew.setCells (w.heap.size + 1 + 1) 0 Tryd.zeroCells59.toList = W7 at M5 hv2 d0 e0 xs xe
  refine wp_region_any (by kernel_rfl) ?_
  refine wpAny_all (rs := [0, 1]) (by kernel_rfl) (by decide) (two_of ?_ ?_)
  · refine any_val (.agg Tryd.zeroCells59) 24 rfl rfl rfl (exec_build0 rfl (bZeroP _)) ?_
    simp only [Act.put, List.setIfInBounds_toArray, List.set_cons_zero, List.set_cons_succ]
    refine wpAny_all (rs := [1, 2]) (by kernel_rfl) (by decide) (two_of ?_ ?_)
    · refine any_val (errVal (A 1)) 25 rfl rfl rfl (exec_load rfl rfl (xl _ hv1)) ?_
      simp only [Act.put, List.setIfInBounds_toArray, List.set_cons_zero, List.set_cons_succ]
      refine wpAny_all (rs := [2]) (by kernel_rfl) (by decide) (one_of ?_)
      refine any_skip rfl rfl (exec_store rfl rfl rfl xs) ?_
      simp only [Act.put, List.setIfInBounds_toArray, List.set_cons_zero, List.set_cons_succ]
      refine wpAny_all (rs := [3]) (by kernel_rfl) (by decide) (one_of ?_)
      refine any_skip rfl rfl (exec_store rfl rfl rfl xe) ?_
      simp only [Act.put, List.setIfInBounds_toArray, List.set_cons_zero, List.set_cons_succ]
      refine wpAny_done (by kernel_rfl) ?_ _
      go_wp2_with fail
      have M6 := M5.set 3 0 (errVal (A 1)) rfl #[errVal (A 1)] rfl
      refine leaves_cons (f := 35) (args := #[.pointer (some ⟨w.heap.size + 1 + 1, 0, none⟩), .pointer (some ⟨w.heap.size + 1 + 1 + 1, 0, none⟩)]) (by simp) (by simp [go_sem]) ?_
      refine (catch_idle _ _ _).mono ?_
      rintro e u' w'' ⟨rfl, rfl, rfl⟩
      exact ⟨_, results_row_one rfl _ _ (w.heap.size + 1 + 1) (w.heap.size + 1 + 1 + 1) 59 _ (errVal (A 1)) _ rfl rfl (M6.at 2 rfl) Tryd.underlying59 rfl (by rw [hzp.out]; exact sizeP) (loadVar_err _ _ _ ((M6.at 3 rfl).cell (i := 0) rfl)), by rw [zeroP], M6.below⟩
    · refine any_skip rfl rfl (exec_store rfl rfl rfl xs) ?_
      simp only [Act.put, List.setIfInBounds_toArray, List.set_cons_zero, List.set_cons_succ]
      refine wpAny_all (rs := [1]) (by kernel_rfl) (by decide) (one_of ?_)
      refine any_val (errVal (A 1)) 25 rfl rfl rfl (exec_load rfl rfl (xl _ hv2)) ?_
      simp only [Act.put, List.setIfInBounds_toArray, List.set_cons_zero, List.set_cons_succ]
      refine wpAny_all (rs := [3]) (by kernel_rfl) (by decide) (one_of ?_)
      refine any_skip rfl rfl (exec_store rfl rfl rfl xe) ?_
      simp only [Act.put, List.setIfInBounds_toArray, List.set_cons_zero, List.set_cons_succ]
      refine wpAny_done (by kernel_rfl) ?_ _
      go_wp2_with fail
      have M6 := M5.set 3 0 (errVal (A 1)) rfl #[errVal (A 1)] rfl
      refine leaves_cons (f := 35) (args := #[.pointer (some ⟨w.heap.size + 1 + 1, 0, none⟩), .pointer (some ⟨w.heap.size + 1 + 1 + 1, 0, none⟩)]) (by simp) (by simp [go_sem]) ?_
      refine (catch_idle _ _ _).mono ?_
      rintro e u' w'' ⟨rfl, rfl, rfl⟩
      exact ⟨_, results_row_one rfl _ _ (w.heap.size + 1 + 1) (w.heap.size + 1 + 1 + 1) 59 _ (errVal (A 1)) _ rfl rfl (M6.at 2 rfl) Tryd.underlying59 rfl (by rw [hzp.out]; exact sizeP) (loadVar_err _ _ _ ((M6.at 3 rfl).cell (i := 0) rfl)), by rw [zeroP], M6.below⟩
  · refine any_val (errVal (A 1)) 25 rfl rfl rfl (exec_load rfl rfl (xl _ hv1)) ?_
    simp only [Act.put, List.setIfInBounds_toArray, List.set_cons_zero, List.set_cons_succ]
    refine wpAny_all (rs := [0]) (by kernel_rfl) (by decide) (one_of ?_)
    refine any_val (.agg Tryd.zeroCells59) 24 rfl rfl rfl (exec_build0 rfl (bZeroP _)) ?_
    simp only [Act.put, List.setIfInBounds_toArray, List.set_cons_zero, List.set_cons_succ]
    refine wpAny_all (rs := [2]) (by kernel_rfl) (by decide) (one_of ?_)
    refine any_skip rfl rfl (exec_store rfl rfl rfl xs) ?_
    simp only [Act.put, List.setIfInBounds_toArray, List.set_cons_zero, List.set_cons_succ]
    refine wpAny_all (rs := [3]) (by kernel_rfl) (by decide) (one_of ?_)
    refine any_skip rfl rfl (exec_store rfl rfl rfl xe) ?_
    simp only [Act.put, List.setIfInBounds_toArray, List.set_cons_zero, List.set_cons_succ]
    refine wpAny_done (by kernel_rfl) ?_ _
    go_wp2_with fail
    have M6 := M5.set 3 0 (errVal (A 1)) rfl #[errVal (A 1)] rfl
    refine leaves_cons (f := 35) (args := #[.pointer (some ⟨w.heap.size + 1 + 1, 0, none⟩), .pointer (some ⟨w.heap.size + 1 + 1 + 1, 0, none⟩)]) (by simp) (by simp [go_sem]) ?_
    refine (catch_idle _ _ _).mono ?_
    rintro e u' w'' ⟨rfl, rfl, rfl⟩
    exact ⟨_, results_row_one rfl _ _ (w.heap.size + 1 + 1) (w.heap.size + 1 + 1 + 1) 59 _ (errVal (A 1)) _ rfl rfl (M6.at 2 rfl) Tryd.underlying59 rfl (by rw [hzp.out]; exact sizeP) (loadVar_err _ _ _ ((M6.at 3 rfl).cell (i := 0) rfl)), by rw [zeroP], M6.below⟩
/-- The code of two fields and owners. -/
def ownedCode (f g : Fd) (o : Nat → Int) : Int := if ownB f o = false then 1 else pairCode f g
theorem ownedCode_fine {f g : Fd} {o : Nat → Int} (h : ownedCode f g o = 0) : ownFit f o = true ∧ pairCode f g = 0 := by
  unfold ownedCode at h
  cases hb : ownB f o with
  | false => rw [if_pos hb] at h; cases h
  | true =>
    rw [if_neg (by rw [hb]; decide)] at h
    simp only [ownB, Bool.and_eq_true] at hb
    exact ⟨hb.2, h⟩
theorem pairOf1_fine (f g : Fd) (hf : f.Wf) (hg : g.Wf) (o : Nat → Int) (ho : WfO o) (h : ownedCode f g o = 0) (bs : Nat) (A : Nat → Addr) (w : World) (BS : Blk w bs (acells .i8 100 o) 34) (S : Sents w A) :
    Calls Tryd.prog 25 #[.agg (fcells f), .agg (fcells g), .slice (some ⟨bs, 0, none⟩) 1 1] w fun e w' => e = .returned (.tuple #[.agg (pcells f g), .nilIface]) ∧ Below w.heap.size w w' := by
  obtain ⟨hfit, h0⟩ := ownedCode_fine h
  obtain ⟨h1, h2, h3, h4⟩ := pairCode_fine h0
  exact pairOf1_ok f g hf hg (by rw [h1, h2]; rfl) (by rw [h3, h4]; rfl) o ho hfit bs A w BS S
theorem pairOf1_err (f g : Fd) (hf : f.Wf) (hg : g.Wf) (o : Nat → Int) (ho : WfO o) (h : ownedCode f g o ≠ 0) : ∃ (t : TypeId) (v : (Nat → Addr) → Value),
    (∀ A bs w, Blk w bs (acells .i8 100 o) 34 → Sents w A → Calls Tryd.prog 25 #[.agg (fcells f), .agg (fcells g), .slice (some ⟨bs, 0, none⟩) 1 1] w fun e w' => e = .returned (.tuple #[.agg (pcells Fd.zero Fd.zero), .iface t (v A)]) ∧ Below w.heap.size w w') ∧
    (∀ A w, Sents w A → Calls Tryd.prog 21 #[.iface t (v A)] w fun e w' => e = .returned (.int .i64 (ownedCode f g o)) ∧ Below w.heap.size w w') := by
  cases hok : (okF f && okF g) with
  | false =>
    have hc : ownedCode f g o = 1 := by
      unfold ownedCode
      split
      · rfl
      · exact pairCode_bad hok
    refine ⟨_, fun A => .agg #[errVal (A 1)], fun A bs w BS S => pairOf_bad f g hf hg hok _ A w S, fun A w S => ?_⟩
    rw [hc]; exact codeOf_field A w S
  | true =>
    have h1 : okF f = true := by simp only [Bool.and_eq_true] at hok; exact hok.1
    cases hfit : ownFit f o with
    | false =>
      have hc : ownedCode f g o = 1 := by unfold ownedCode; rw [if_pos (by unfold ownB; rw [hfit, Bool.and_false])]
      refine ⟨111, fun A => .pointer (some (A 1)), fun A bs w BS S => pairOf1_own f g hf hg hok o ho hfit bs A w BS S, fun A w S => ?_⟩
      rw [hc]
      exact (codeOf_err A 1 (by omega) (by omega) w S).mono (fun e w' h => ⟨h.1, by rw [← h.2]; exact Below.refl _ _⟩)
    | true =>
      have hb : ownB f o = true := by unfold ownB; rw [h1, hfit]; rfl
      have hc : ownedCode f g o = pairCode f g := by unfold ownedCode; rw [if_neg (by rw [hb]; decide)]
      cases hp : (sameKB f g && lessB f g) with
      | true => exact absurd (hc.trans (pairCode_ok hok hp)) h
      | false =>
        refine ⟨_, fun _ => .agg #[], fun A bs w BS S => pairOf1_no f g hf hg hok hp o ho hfit bs A w BS S, fun A w S => ?_⟩
        rw [hc, pairCode_no hok hp]; exact codeOf_pair A w S
end Go.Proofs.YtgnfpmpjmliegaaDoor
