/-
  Two fields put together: the pair, or why there is none.
-/
import Derived.Test.YtgnfpmpjmliegaaDoorPairQ
namespace Go.Proofs.YtgnfpmpjmliegaaDoor
open Go Go.RowKit Go.Stop Go.Extern.Stop

theorem open4 (w : World) (c1 : Array Value) (t1 : TypeId) (c2 : Array Value) (t2 : TypeId) (c3 : Array Value) (t3 : TypeId) (c4 : Array Value) (t4 : TypeId) :
    ∃ W, (((w.alloc (.cells c1 t1)).alloc (.cells c2 t2)).alloc (.cells c3 t3)).alloc (.cells c4 t4) = W ∧ Mem w W [⟨w.heap.size, c1, t1⟩, ⟨w.heap.size + 1, c2, t2⟩, ⟨w.heap.size + 1 + 1, c3, t3⟩, ⟨w.heap.size + 1 + 1 + 1, c4, t4⟩] := by
  have h := ((((Mem.nil w).alloc c1 t1).alloc c2 t2).alloc c3 t3).alloc c4 t4
  simp only [World.size_alloc, List.nil_append, List.cons_append] at h
  exact ⟨_, rfl, h⟩
/-- A row and a single cell. -/
theorem results_row_one {P : Program} {fn : Func} {p q : Tmp} {ty ti : TypeId} (h : fn.results = #[.cell p ty, .cell q ti]) (tmps : Array Value) (w : World) (b1 b2 : Nat) (t : TypeId) (cs : Array Value) (v : Value) (d : TypeDesc)
    (hp : tmps.getD p undef = .pointer (some ⟨b1, 0, none⟩)) (hq : tmps.getD q undef = .pointer (some ⟨b2, 0, none⟩)) (B : Blk w b1 cs t) (hu : P.underlying ty = some d) (hd : (match d with | .struct _ | .array _ _ => true | _ => false) = true) (hi : (P.info? ty).map (·.size) = some cs.size)
    (hl : (loadVar ti ⟨b2, 0, none⟩).run P w = .ok v w) : (results fn tmps).run P w = .ok (.tuple #[.agg cs, v]) w := by
  have hp' : tmps[p]?.getD undef = .pointer (some ⟨b1, 0, none⟩) := by simpa using hp
  have hq' : tmps[q]?.getD undef = .pointer (some ⟨b2, 0, none⟩) := by simpa using hq
  simp [results, h, hp', hq', asAddr, Result.andThen, run_loadVar_row w b1 t ty cs (0, 0) d B hu hd hi, hl]
theorem loadVar_err (b : Nat) (v : Value) (w : World) (c : w.cell? ⟨b, 0, none⟩ = some v) : (loadVar 48 ⟨b, 0, none⟩).run Tryd.prog w = .ok v w := by
  simp [go_sem, c]
set_option maxRecDepth 100000 in
set_option maxHeartbeats 8000000 in
theorem pairOf_ok (f g : Fd) (hf : f.Wf) (hg : g.Wf) (hok : (okF f && okF g) = true) (hp : (sameKB f g && lessB f g) = true) (A : Nat → Addr) (w : World) (S0 : Sents w A) : Calls Tryd.prog 25 #[.agg (fcells f), .agg (fcells g), .slice none 0 0] w fun e w' => e = .returned (.tuple #[.agg (pcells f g), .nilIface]) ∧ Below w.heap.size w w' := by
  have S := Lib.hid S0
  clear S0
  have hmf : ∀ (fn : Fn) (first cap : Array Value) (w : World), (Instr.makeFunc fn first cap).run Tryd.prog w = .ok (.func fn first cap) w := fun _ _ _ _ => rfl
  have h1 : okF f = true := by simp only [Bool.and_eq_true] at hok; exact hok.1
  have h2 : okF g = true := by simp only [Bool.and_eq_true] at hok; exact hok.2
  have H1 := Lib.hid h1
  have H2 := Lib.hid h2
  have HP := Lib.hid hp
  have HOK := Lib.hid hok
  clear h1 h2 hp hok
  go_enter_defers Tryd.func25, Tryd.ntmps25
  go_upto_region 1 with (fail)
  obtain ⟨W, hW, M⟩ := open4 w (fcells f) 32 (fcells g) 32 Tryd.zeroCells59 59 #[.nilIface] 48
  rw [hW]; clear hW
  have hzp : Hid (Tryd.zeroCells59.size = 404) := Lib.hid (by rw [zeroP, pcells_size])
  have ok1 : True := trivial
  have ok2 : True := trivial
  go_upto_region 3 with (first
    | (clear ok1; (refine wpList_load_part rfl 32 _ rfl w.heap.size 0 rfl (fcells f) _ (M.at 0 rfl).whole Tryd.underlying32 rfl (by rw [fcells_size]; exact sizeFd) ?_))
    | (clear ok2; (refine wpList_load_part rfl 32 _ rfl (w.heap.size + 1) 0 rfl (fcells g) _ (M.at 1 rfl).whole Tryd.underlying32 rfl (by rw [fcells_size]; exact sizeFd) ?_))
    | (go_at_call 36; refine (pairFrom_ok f g hf hg HOK.out A _ (S.out.later M.below)).mono ?_; rintro e W2 ⟨rfl, hb⟩; have M2 := M.call hb; clear hb)
    | (refine wpList_store_row rfl 59 _ _ rfl (w.heap.size + 1 + 1) (pcells f g) rfl rfl 59 _ (M2.at 2 rfl) (by rw [pcells_size]; exact sizeP) (by rw [pcells_size, hzp.out]) (pcells_one _ _) ?_))
  have M3 := M2.row 2 rfl (pcells f g)
  clear M M2
  generalize World.setRow _ _ _ = W3 at M3 ⊢
  go_wp2_with fail
  refine wp_loop_rounds 1 ?_
  rw [rounds_succ]
  go_wp2_with (first
    | (refine wpList_load_part rfl 59 _ rfl (w.heap.size + 1 + 1) 0 rfl (pcells f g) _ (M3.at 2 rfl).whole Tryd.underlying59 rfl (by rw [pcells_size]; exact sizeP) ?_)
    | (go_at_call 38; refine (fits_any f g hf hg H1.out H2.out _).mono ?_; rintro e W4 ⟨rfl, hb⟩; rw [HP.out]; have M4 := M3.call hb; clear hb)
    | (refine wpList_load_part rfl 59 _ rfl (w.heap.size + 1 + 1) 0 rfl (pcells f g) _ (M4.at 2 rfl).whole Tryd.underlying59 rfl (by rw [pcells_size]; exact sizeP) ?_)
    | (refine wpList_store_row rfl 59 _ _ rfl (w.heap.size + 1 + 1) (pcells f g) rfl rfl 59 _ (M4.at 2 rfl) (by rw [pcells_size]; exact sizeP) rfl (pcells_one _ _) ?_; have M5 := M4.row 2 rfl (pcells f g); have d0 := (M5.at 3 rfl).cell (i := 0) (v := .nilIface) rfl; have e0 := (M5.at 3 rfl).free 0))
  have M6 := M5.set 3 0 .nilIface rfl #[.nilIface] rfl
  refine leaves_cons (f := 35) (args := #[.pointer (some ⟨w.heap.size + 1 + 1, 0, none⟩), .pointer (some ⟨w.heap.size + 1 + 1 + 1, 0, none⟩)]) (by simp) (by simp [go_sem]) ?_
  refine (catch_idle _ _ _).mono ?_
  rintro e u' w'' ⟨rfl, rfl, rfl⟩
  exact ⟨_, results_row_one rfl _ _ (w.heap.size + 1 + 1) (w.heap.size + 1 + 1 + 1) 59 _ .nilIface _ rfl rfl (M6.at 2 rfl) Tryd.underlying59 rfl (by rw [pcells_size]; exact sizeP) (loadVar_err _ _ _ ((M6.at 3 rfl).cell (i := 0) rfl)), rfl, M6.below⟩
set_option maxRecDepth 100000 in
set_option maxHeartbeats 8000000 in
theorem pairOf_no (f g : Fd) (hf : f.Wf) (hg : g.Wf) (hok : (okF f && okF g) = true) (hp : (sameKB f g && lessB f g) = false) (A : Nat → Addr) (w : World) (S0 : Sents w A) : Calls Tryd.prog 25 #[.agg (fcells f), .agg (fcells g), .slice none 0 0] w fun e w' => e = .returned (.tuple #[.agg (pcells Fd.zero Fd.zero), pairErr]) ∧ Below w.heap.size w w' := by
  have S := Lib.hid S0
  clear S0
  have hmf : ∀ (fn : Fn) (first cap : Array Value) (w : World), (Instr.makeFunc fn first cap).run Tryd.prog w = .ok (.func fn first cap) w := fun _ _ _ _ => rfl
  have h1 : okF f = true := by simp only [Bool.and_eq_true] at hok; exact hok.1
  have h2 : okF g = true := by simp only [Bool.and_eq_true] at hok; exact hok.2
  have H1 := Lib.hid h1
  have H2 := Lib.hid h2
  have HP := Lib.hid hp
  have HOK := Lib.hid hok
  clear h1 h2 hp hok
  go_enter_defers Tryd.func25, Tryd.ntmps25
  go_upto_region 1 with (fail)
  obtain ⟨W, hW, M⟩ := open4 w (fcells f) 32 (fcells g) 32 Tryd.zeroCells59 59 #[.nilIface] 48
  rw [hW]; clear hW
  have hzp : Hid (Tryd.zeroCells59.size = 404) := Lib.hid (by rw [zeroP, pcells_size])
  have ok1 : True := trivial
  have ok2 : True := trivial
  go_upto_region 3 with (first
    | (clear ok1; (refine wpList_load_part rfl 32 _ rfl w.heap.size 0 rfl (fcells f) _ (M.at 0 rfl).whole Tryd.underlying32 rfl (by rw [fcells_size]; exact sizeFd) ?_))
    | (clear ok2; (refine wpList_load_part rfl 32 _ rfl (w.heap.size + 1) 0 rfl (fcells g) _ (M.at 1 rfl).whole Tryd.underlying32 rfl (by rw [fcells_size]; exact sizeFd) ?_))
    | (go_at_call 36; refine (pairFrom_ok f g hf hg HOK.out A _ (S.out.later M.below)).mono ?_; rintro e W2 ⟨rfl, hb⟩; have M2 := M.call hb; clear hb)
    | (refine wpList_store_row rfl 59 _ _ rfl (w.heap.size + 1 + 1) (pcells f g) rfl rfl 59 _ (M2.at 2 rfl) (by rw [pcells_size]; exact sizeP) (by rw [pcells_size, hzp.out]) (pcells_one _ _) ?_))
  have M3 := M2.row 2 rfl (pcells f g)
  clear M M2
  generalize World.setRow _ _ _ = W3 at M3 ⊢
  go_wp2_with fail
  refine wp_loop_rounds 1 ?_
  rw [rounds_succ]
  go_wp2_with (first
    | (refine wpList_load_part rfl 59 _ rfl (w.heap.size + 1 + 1) 0 rfl (pcells f g) _ (M3.at 2 rfl).whole Tryd.underlying59 rfl (by rw [pcells_size]; exact sizeP) ?_)
    | (go_at_call 38; refine (fits_any f g hf hg H1.out H2.out _).mono ?_; rintro e W4 ⟨rfl, hb⟩; rw [HP.out]; have M4 := M3.call hb; clear hb)
    | (refine wpList_build0 rfl 59 rfl (.agg Tryd.zeroCells59) (bZeroP _) ?_)
    | (refine wpList_build0 rfl 78 rfl (.agg #[]) (bNoPair _) ?_)
    | (refine wpList_store_row rfl 59 _ _ rfl (w.heap.size + 1 + 1) Tryd.zeroCells59 rfl rfl 59 _ (M4.at 2 rfl) (by rw [hzp.out]; exact sizeP) (by rw [hzp.out, pcells_size]) (by rw [zeroP]; exact pcells_one _ _) ?_; have M5 := M4.row 2 rfl Tryd.zeroCells59; have d0 := (M5.at 3 rfl).cell (i := 0) (v := .nilIface) rfl; have e0 := (M5.at 3 rfl).free 0))
  have M6 := M5.set 3 0 pairErr rfl #[pairErr] rfl
  refine leaves_cons (f := 35) (args := #[.pointer (some ⟨w.heap.size + 1 + 1, 0, none⟩), .pointer (some ⟨w.heap.size + 1 + 1 + 1, 0, none⟩)]) (by simp) (by simp [go_sem]) ?_
  refine (catch_idle _ _ _).mono ?_
  rintro e u' w'' ⟨rfl, rfl, rfl⟩
  exact ⟨_, results_row_one rfl _ _ (w.heap.size + 1 + 1) (w.heap.size + 1 + 1 + 1) 59 _ pairErr _ rfl rfl (M6.at 2 rfl) Tryd.underlying59 rfl (by rw [hzp.out]; exact sizeP) (loadVar_err _ _ _ ((M6.at 3 rfl).cell (i := 0) rfl)), by rw [zeroP], M6.below⟩
set_option maxRecDepth 100000 in
set_option maxHeartbeats 8000000 in
theorem pairOf_bad (f g : Fd) (hf : f.Wf) (hg : g.Wf) (hok : (okF f && okF g) = false) (s : Value) (A : Nat → Addr) (w : World) (S0 : Sents w A) : Calls Tryd.prog 25 #[.agg (fcells f), .agg (fcells g), s] w fun e w' => e = .returned (.tuple #[.agg (pcells Fd.zero Fd.zero), fieldErr (A 1)]) ∧ Below w.heap.size w w' := by
  have S := Lib.hid S0
  clear S0
  have hmf : ∀ (fn : Fn) (first cap : Array Value) (w : World), (Instr.makeFunc fn first cap).run Tryd.prog w = .ok (.func fn first cap) w := fun _ _ _ _ => rfl
  have HOK := Lib.hid hok
  clear hok
  go_enter_defers Tryd.func25, Tryd.ntmps25
  go_upto_region 1 with (fail)
  obtain ⟨W, hW, M⟩ := open4 w (fcells f) 32 (fcells g) 32 Tryd.zeroCells59 59 #[.nilIface] 48
  rw [hW]; clear hW
  have hzp : Tryd.zeroCells59.size = 404 := by rw [zeroP, pcells_size]
  have HZ := Lib.hid hzp
  clear hzp
  have ok1 : True := trivial
  have ok2 : True := trivial
  go_wp2_with (first
    | (clear ok1; (refine wpList_load_part rfl 32 _ rfl w.heap.size 0 rfl (fcells f) _ (M.at 0 rfl).whole Tryd.underlying32 rfl (by rw [fcells_size]; exact sizeFd) ?_))
    | (clear ok2; (refine wpList_load_part rfl 32 _ rfl (w.heap.size + 1) 0 rfl (fcells g) _ (M.at 1 rfl).whole Tryd.underlying32 rfl (by rw [fcells_size]; exact sizeFd) ?_))
    | (go_at_call 36; refine (pairFrom_bad f g hf hg HOK.out A _ (S.out.later M.below)).mono ?_; rintro e W2 ⟨rfl, hb⟩; have M2 := M.call hb; clear hb))
  refine leaves_cons (f := 35) (args := #[.pointer (some ⟨w.heap.size + 1 + 1, 0, none⟩), .pointer (some ⟨w.heap.size + 1 + 1 + 1, 0, none⟩)]) (by simp) (by simp [go_sem]) ?_
  refine (catch_panicking _ 2 3 _ _ _ _ HZ.out w _ (A 1) M2 rfl rfl (by decide)).mono ?_
  rintro e u' w'' ⟨rfl, rfl, M6⟩
  exact ⟨_, results_row_one rfl _ _ (w.heap.size + 1 + 1) (w.heap.size + 1 + 1 + 1) 59 _ (fieldErr (A 1)) _ rfl rfl (M6.at 2 rfl) Tryd.underlying59 rfl (by rw [pcells_size]; exact sizeP) (loadVar_err _ _ _ ((M6.at 3 rfl).cell (i := 0) rfl)), rfl, M6.below⟩
end Go.Proofs.YtgnfpmpjmliegaaDoor
