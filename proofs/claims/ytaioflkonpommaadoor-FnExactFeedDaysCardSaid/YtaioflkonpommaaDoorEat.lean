/-
  A flock goes to its choice, and eats there: the answer, and the model's way.
-/
import Derived.Test.YtaioflkonpommaaDoorChi0
import Derived.Test.YtaioflkonpommaaDoorTurnI
import Derived.Test.YtaioflkonpommaaDoorCoreB
namespace Go.Proofs.YtaioflkonpommaaDoor
open Go Go.RowKit

theorem open5 (w : World) (c1 : Array Value) (t1 : TypeId) (c2 : Array Value) (t2 : TypeId) (c3 : Array Value) (t3 : TypeId) (c4 : Array Value) (t4 : TypeId) (c5 : Array Value) (t5 : TypeId) : ∃ W, ((((w.alloc (.cells c1 t1)).alloc (.cells c2 t2)).alloc (.cells c3 t3)).alloc (.cells c4 t4)).alloc (.cells c5 t5) = W ∧ Mem w W [⟨w.heap.size, c1, t1⟩, ⟨w.heap.size + 1, c2, t2⟩, ⟨w.heap.size + 1 + 1, c3, t3⟩, ⟨w.heap.size + 1 + 1 + 1, c4, t4⟩, ⟨w.heap.size + 1 + 1 + 1 + 1, c5, t5⟩] := by
  have h := (((((Mem.nil w).alloc c1 t1).alloc c2 t2).alloc c3 t3).alloc c4 t4).alloc c5 t5
  simp only [World.size_alloc, List.nil_append, List.cons_append] at h
  exact ⟨_, rfl, h⟩
/-- The cells of a visit of the first flock. -/
def vis (c n : Int) : Array Value := #[.int .i8 0, .int .i16 c, .int .i16 n]
theorem vis_one (c n : Int) : (vis c n).all (·.oneCell') = true := by simp [vis, Value.oneCell']
theorem vis_size (c n : Int) : (vis c n).size = 3 := rfl
theorem sizeVis : (Tryd.prog.info? 32).map (·.size) = some 3 := by kernel_rfl
theorem results_row2 {P : Program} {fn : Func} {p q : Tmp} {ty ti : TypeId} (h : fn.results = #[.cell p ty, .cell q ti]) (tmps : Array Value) (w : World) (g1 g2 : Nat) (t1 t2 : TypeId) (c1 c2 : Array Value) (d e : TypeDesc)
    (hp : tmps.getD p undef = .pointer (some ⟨g1, 0, none⟩)) (hq : tmps.getD q undef = .pointer (some ⟨g2, 0, none⟩)) (h1 : Blk w g1 c1 t1) (h2 : Blk w g2 c2 t2)
    (hu : P.underlying ty = some d) (hd : (match d with | .struct _ | .array _ _ => true | _ => false) = true) (hi1 : (P.info? ty).map (·.size) = some c1.size)
    (hu2 : P.underlying ti = some e) (he : (match e with | .struct _ | .array _ _ => true | _ => false) = true) (hi2 : (P.info? ti).map (·.size) = some c2.size) :
    (results fn tmps).run P w = .ok (.tuple #[.agg c1, .agg c2]) w := by
  have hp' : tmps[p]?.getD undef = .pointer (some ⟨g1, 0, none⟩) := by simpa using hp
  have hq' : tmps[q]?.getD undef = .pointer (some ⟨g2, 0, none⟩) := by simpa using hq
  simp [results, h, hp', hq', asAddr, Result.andThen, run_loadVar_row w g1 t1 ty c1 (0, 0) d h1 hu hd hi1, run_loadVar_row w g2 t2 ti c2 (0, 0) e h2 hu2 he hi2]
theorem results_row2_tmp {P : Program} {fn : Func} {p q u : Tmp} {ty ti : TypeId} (h : fn.results = #[.cell p ty, .cell q ti, .tmp u]) (tmps : Array Value) (w : World) (g1 g2 : Nat) (t1 t2 : TypeId) (c1 c2 : Array Value) (d e : TypeDesc)
    (hp : tmps.getD p undef = .pointer (some ⟨g1, 0, none⟩)) (hq : tmps.getD q undef = .pointer (some ⟨g2, 0, none⟩)) (h1 : Blk w g1 c1 t1) (h2 : Blk w g2 c2 t2)
    (hu : P.underlying ty = some d) (hd : (match d with | .struct _ | .array _ _ => true | _ => false) = true) (hi1 : (P.info? ty).map (·.size) = some c1.size)
    (hu2 : P.underlying ti = some e) (he : (match e with | .struct _ | .array _ _ => true | _ => false) = true) (hi2 : (P.info? ti).map (·.size) = some c2.size) :
    (results fn tmps).run P w = .ok (.tuple #[.agg c1, .agg c2, tmps.getD u undef]) w := by
  have hp' : tmps[p]?.getD undef = .pointer (some ⟨g1, 0, none⟩) := by simpa using hp
  have hq' : tmps[q]?.getD undef = .pointer (some ⟨g2, 0, none⟩) := by simpa using hq
  simp [results, h, hp', hq', asAddr, Result.andThen, run_loadVar_row w g1 t1 ty c1 (0, 0) d h1 hu hd hi1, run_loadVar_row w g2 t2 ti c2 (0, 0) e h2 hu2 he hi2]

def eaCode (f : Fd) (g a : Nat → Int) : Int := if chCode f g a = 0 then (if a 1 * a 2 = 0 then 4 else 0) else chCode f g a
def eaN (f : Fd) (g a : Nat → Int) : Nat := (bL (a 5) (mealsR f g a 100) 0).toNat
def eaE (f : Fd) (g a : Nat → Int) : Int := minI (a 1 * a 2) (f.S (eaN f g a))
def eaF (f : Fd) (g a : Nat → Int) : Fd := if eaCode f g a = 0 then turned f (eaN f g a) (f.K (eaN f g a)) (f.S (eaN f g a) - eaE f g a) else Fd.zero
def eaV (f : Fd) (g a : Nat → Int) : Array Value := if eaCode f g a = 0 then vis (eaN f g a : Int) (eaE f g a) else vis 0 0
theorem eaF_size (f : Fd) (hf : f.Wf) (g a : Nat → Int) : (-128 ≤ (eaF f g a).W ∧ (eaF f g a).W ≤ 127) ∧ (-128 ≤ (eaF f g a).H ∧ (eaF f g a).H ≤ 127) := by
  have h1 := hf.W
  have h2 := hf.H
  unfold eaF
  split
  · exact ⟨h1, h2⟩
  · exact ⟨⟨by decide, by decide⟩, ⟨by decide, by decide⟩⟩
theorem eaF_no {f : Fd} {g a : Nat → Int} {c : Int} (h : eaCode f g a = c) (hc : c ≠ 0) : fcells (eaF f g a) = Tryd.zeroCells30 := by
  unfold eaF; rw [if_neg (by rw [h]; exact hc), zeroFd]
theorem eaV_no {f : Fd} {g a : Nat → Int} {c : Int} (h : eaCode f g a = c) (hc : c ≠ 0) : eaV f g a = vis 0 0 := by
  unfold eaV; rw [if_neg (by rw [h]; exact hc)]
theorem flock_hunger {f : Fd} {a : Nat → Int} (h : flockOk f a = true) : 0 ≤ a 1 * a 2 ∧ a 1 * a 2 ≤ 4000 := by
  unfold flockOk plainOk at h
  simp only [Bool.and_eq_true, inB_iff] at h
  obtain ⟨h1, h2⟩ : (0 ≤ a 1 ∧ a 1 ≤ 200) ∧ (0 ≤ a 2 ∧ a 2 ≤ 20) := by
    refine ⟨?_, ?_⟩ <;> omega
  refine ⟨Int.mul_nonneg h1.1 h2.1, ?_⟩
  calc a 1 * a 2 ≤ 200 * a 2 := Int.mul_le_mul_of_nonneg_right h1.2 h2.1
    _ ≤ 200 * 20 := Int.mul_le_mul_of_nonneg_left h2.2 (by omega)
/-- The ways that eating can go. -/
theorem ea_cases (f : Fd) (g a : Nat → Int) (hok : ffOk f g a = true) :
    (chCode f g a = 6 ∧ (mealsR f g a 100).length = 0 ∧ eaCode f g a = 6) ∨
    (∃ n : Nat, n < 100 ∧ (mealsR f g a 100).length ≠ 0 ∧ bL (a 5) (mealsR f g a 100) 0 = (n : Int) ∧ eaN f g a = n ∧ chCode f g a = 0 ∧
      ((a 1 * a 2 = 0 ∧ eaCode f g a = 4) ∨ (a 1 * a 2 ≠ 0 ∧ eaCode f g a = 0 ∧ eaF f g a = turned f n (f.K n) (f.S n - minI (a 1 * a 2) (f.S n)) ∧ eaV f g a = vis (n : Int) (minI (a 1 * a 2) (f.S n))))) := by
  by_cases hlen : (mealsR f g a 100).length = 0
  · left
    have hcc : chCode f g a = 6 := by unfold chCode; rw [hok, if_pos rfl, if_pos hlen]
    exact ⟨hcc, hlen, by unfold eaCode; rw [hcc, if_neg (by decide)]⟩
  · right
    have hcc : chCode f g a = 0 := by unfold chCode; rw [hok, if_pos rfl, if_neg hlen]
    obtain ⟨i9, hi9, hb9⟩ := bL_mem (a 5) hlen
    obtain ⟨c9, hc9, _, hrow⟩ := meals_in f g a 100 (Nat.le_refl _) i9 hi9
    have hcv : bL (a 5) (mealsR f g a 100) 0 = (c9 : Int) := by rw [hb9, hrow 0]; rfl
    have hn : eaN f g a = c9 := by unfold eaN; rw [hcv]; rfl
    refine ⟨c9, hc9, hlen, hcv, hn, hcc, ?_⟩
    by_cases hz : a 1 * a 2 = 0
    · left; exact ⟨hz, by unfold eaCode; rw [if_pos hcc, if_pos hz]⟩
    · right
      have h0 : eaCode f g a = 0 := by unfold eaCode; rw [if_pos hcc, if_neg hz]
      refine ⟨hz, h0, ?_, ?_⟩
      · unfold eaF eaE; rw [if_pos h0, hn]
      · unfold eaV eaE; rw [if_pos h0, hn]

set_option maxRecDepth 100000 in
set_option maxHeartbeats 4000000 in
theorem l02Eat_any (f : Fd) (n : Nat) (hn : n < 100) (hS3 : 0 ≤ f.S n) (hS4 : f.S n ≤ 1000) (m : Int) (hm : 0 ≤ m) (hm2 : m ≤ 9223372036854775807) (w : World) : Calls Tryd.prog 41 #[.agg (fcells f), .int .i64 n, .int .i64 m] w fun e w' => e = .returned (.tuple #[.agg (fcells (turned f n (f.K n) (f.S n - minI m (f.S n)))), .int .i64 (minI m (f.S n))]) ∧ Below w.heap.size w w' := by
  have hn1 : (n : Int) < 100 := by omega
  obtain ⟨ht3, ht4⟩ := minI_le hm hS3
  have hz : Hid (Tryd.zeroCells30.size = 202) := Lib.hid (by rw [zeroFd, fcells_size])
  go_enter Tryd.func41, Tryd.ntmps41
  go_upto_region 1 with (fail)
  obtain ⟨W, hW, M⟩ := open2 w (fcells f) 30 Tryd.zeroCells30 30
  rw [hW]; clear hW
  have cS := (M.at 0 rfl).cell (fcells_S f n hn)
  have eS := (M.at 0 rfl).free (102 + n)
  have M2 := M.set 0 (102 + n) (.int .i16 (f.S n - minI m (f.S n))) rfl _ ((fcells_setS f n (f.S n - minI m (f.S n)) hn).trans (turned_S0 f n (f.S n - minI m (f.S n))))
  go_upto_region 3 with (go_at_call 68; refine (l00Min_any _ _ _).mono ?_; rintro e w' ⟨rfl, rfl⟩)
  have M3 := M2.row 1 rfl (fcells (turned f n (f.K n) (f.S n - minI m (f.S n))))
  generalize World.setCell _ _ _ = W2 at M2 M3 ⊢
  go_wp2_with (first
    | (refine wpList_load_part rfl 30 _ rfl w.heap.size 0 rfl (fcells (turned f n (f.K n) (f.S n - minI m (f.S n)))) _ (M2.at 0 rfl).whole Tryd.underlying30 rfl (by rw [fcells_size]; exact sizeFd) ?_)
    | (refine wpList_store_row rfl 30 _ _ rfl (w.heap.size + 1) (fcells (turned f n (f.K n) (f.S n - minI m (f.S n)))) rfl rfl 30 _ (M2.at 1 rfl) (by rw [fcells_size]; exact sizeFd) (by rw [hz.out, fcells_size]) (fcells_one _) ?_))
  exact bodyPost_ret (results_row_tmp rfl _ _ (w.heap.size + 1) 30 _ _ _ rfl (M3.at 1 rfl) Tryd.underlying30 rfl (by rw [fcells_size]; exact sizeFd)) rfl ⟨rfl, M3.below⟩

set_option maxRecDepth 100000 in
set_option maxHeartbeats 8000000 in
theorem specEatOnce (f : Fd) (hf : f.Wf) (g : Nat → Int) (hg : Wf16 g) (a : Nat → Int) (ha : WfR a) (w : World) :
    Calls Tryd.prog 9 #[.agg (fcells f), .agg (acells .i16 100 g), vFlock a] w fun e w' => e = .returned (.tuple #[.agg (fcells (eaF f g a)), .agg (eaV f g a), .int .i64 (eaCode f g a)]) ∧ Below w.heap.size w w' := by
  have hz : Hid (Tryd.zeroCells30.size = 202) := Lib.hid (by rw [zeroFd, fcells_size])
  have hz1 : Hid (Tryd.zeroCells30.all (·.oneCell') = true) := Lib.hid (by rw [zeroFd]; exact fcells_one _)
  have HAF := Lib.hid ha
  cases hok : ffOk f g a with
  | false =>
    have hcode : ffCode f g a = 1 := by unfold ffCode; rw [hok]; rfl
    have hec : eaCode f g a = 1 := by unfold eaCode; rw [show chCode f g a = 1 by unfold chCode; rw [hok]; rfl, if_neg (by decide)]
    have HC := Lib.hid hcode
    have HF : Hid (fcells (eaF f g a) = Tryd.zeroCells30) := Lib.hid (eaF_no hec (by decide))
    have HV : Hid (eaV f g a = vis 0 0) := Lib.hid (eaV_no hec (by decide))
    have HE := Lib.hid hec
    clear hok hcode hec ha
    go_enter Tryd.func9, Tryd.ntmps9
    go_upto_region 1 with (fail)
    obtain ⟨W, hW, M⟩ := open5 w (fcells f) 30 (acells .i16 100 g) 36 (flc a) 38 Tryd.zeroCells30 30 (vis 0 0) 32
    unfold flc vis at hW
    rw [hW]; clear hW
    go_wp2_with (first
      | (go_at_call 38; refine (l02Asked_any f hf g hg a HAF.out w.heap.size (w.heap.size + 1) (w.heap.size + 1 + 1) 0 _ (M.at 0 rfl) (M.at 1 rfl) (flc_at (M.at 2 rfl))).mono ?_; rintro e w1 ⟨rfl, rfl⟩; rw [HC.out])
      | (refine wpList_store_row rfl 30 _ _ rfl (w.heap.size + 1 + 1 + 1) Tryd.zeroCells30 rfl rfl 30 _ (M.at 3 rfl) (by rw [hz.out]; exact sizeFd) (by rw [hz.out]) hz1.out ?_; have MX := M.row 3 rfl Tryd.zeroCells30; clear M)
      | (refine wpList_store_row rfl 32 _ _ rfl (w.heap.size + 1 + 1 + 1 + 1) (vis 0 0) rfl rfl 32 _ (MX.at 4 rfl) (by rw [vis_size]; exact sizeVis) (by simp only [vis_size]) (vis_one _ _) ?_; have MY := MX.row 4 rfl (vis 0 0); clear MX))
    exact bodyPost_ret (results_row2_tmp rfl _ _ (w.heap.size + 1 + 1 + 1) (w.heap.size + 1 + 1 + 1 + 1) 30 32 _ _ _ _ rfl rfl (MY.at 3 rfl) (MY.at 4 rfl) Tryd.underlying30 rfl (by rw [hz.out]; exact sizeFd) Tryd.underlying32 rfl (by rw [vis_size]; exact sizeVis)) rfl ⟨by rw [HF.out, HV.out, HE.out]; rfl, MY.below⟩
  | true =>
    have hcode : ffCode f g a = 0 := by unfold ffCode; rw [hok]; rfl
    have HC := Lib.hid hcode
    have hfo := (ff_okF hok).1
    have h0 := flock_tree (ff_okF hok).2.1
    have h5 := flock_taste (ff_okF hok).2.1
    have hhun := flock_hunger (ff_okF hok).2.1
    have HLC := Lib.hid (fun (b c d o : Nat) (w : World) B G H => l02Choice_any f hf g hg a ha h0 h5 b c d o w B G H)
    rcases ea_cases f g a hok with ⟨hcc, hlen, hec⟩ | ⟨n, hn, hlen, hcv, hen, hcc, hrest⟩
    · have hch : chcV (a 5) (mealsR f g a 100) = -1 := by unfold chcV; rw [if_pos hlen]
      rw [hch] at HLC
      have HF : Hid (fcells (eaF f g a) = Tryd.zeroCells30) := Lib.hid (eaF_no hec (by decide))
      have HV : Hid (eaV f g a = vis 0 0) := Lib.hid (eaV_no hec (by decide))
      have HE := Lib.hid hec
      clear hok hcode hec ha h0 h5 hhun hcc hlen hch hfo
      go_enter Tryd.func9, Tryd.ntmps9
      go_upto_region 1 with (fail)
      obtain ⟨W, hW, M⟩ := open5 w (fcells f) 30 (acells .i16 100 g) 36 (flc a) 38 Tryd.zeroCells30 30 (vis 0 0) 32
      unfold flc vis at hW
      rw [hW]; clear hW
      go_wp2_with (first
        | (go_at_call 38; refine (l02Asked_any f hf g hg a HAF.out w.heap.size (w.heap.size + 1) (w.heap.size + 1 + 1) 0 _ (M.at 0 rfl) (M.at 1 rfl) (flc_at (M.at 2 rfl))).mono ?_; rintro e w1 ⟨rfl, rfl⟩; rw [HC.out])
        | (go_at_call 39; refine (HLC.out _ _ _ 0 _ (M.at 0 rfl) (M.at 1 rfl) (flc_at (M.at 2 rfl))).mono ?_; rintro e W2 ⟨rfl, hb⟩; have M2 := M.call hb; clear hb)
        | (refine wpList_store_row rfl 30 _ _ rfl (w.heap.size + 1 + 1 + 1) Tryd.zeroCells30 rfl rfl 30 _ (M2.at 3 rfl) (by rw [hz.out]; exact sizeFd) (by rw [hz.out]) hz1.out ?_; have MX := M2.row 3 rfl Tryd.zeroCells30; clear M2)
        | (refine wpList_store_row rfl 32 _ _ rfl (w.heap.size + 1 + 1 + 1 + 1) (vis 0 0) rfl rfl 32 _ (MX.at 4 rfl) (by rw [vis_size]; exact sizeVis) (by simp only [vis_size]) (vis_one _ _) ?_; have MY := MX.row 4 rfl (vis 0 0); clear MX))
      exact bodyPost_ret (results_row2_tmp rfl _ _ (w.heap.size + 1 + 1 + 1) (w.heap.size + 1 + 1 + 1 + 1) 30 32 _ _ _ _ rfl rfl (MY.at 3 rfl) (MY.at 4 rfl) Tryd.underlying30 rfl (by rw [hz.out]; exact sizeFd) Tryd.underlying32 rfl (by rw [vis_size]; exact sizeVis)) rfl ⟨by rw [HF.out, HV.out, HE.out]; rfl, MY.below⟩
    · have hch : chcV (a 5) (mealsR f g a 100) = (n : Int) := by unfold chcV; rw [if_neg hlen, hcv]
      rw [hch] at HLC
      have hn1 : (n : Int) < 100 := by omega
      have hn0 : ¬ (n : Int) < 0 := by omega
      rcases hrest with ⟨hz0, hec⟩ | ⟨hz0, hec, hF9, hV9⟩
      · have HF : Hid (fcells (eaF f g a) = Tryd.zeroCells30) := Lib.hid (eaF_no hec (by decide))
        have HV : Hid (eaV f g a = vis 0 0) := Lib.hid (eaV_no hec (by decide))
        have HE := Lib.hid hec
        have HH := Lib.hid hz0
        clear hok hcode hec ha h0 h5 hhun hcc hlen hch hfo hz0 hcv hen
        go_enter Tryd.func9, Tryd.ntmps9
        go_upto_region 1 with (fail)
        obtain ⟨W, hW, M⟩ := open5 w (fcells f) 30 (acells .i16 100 g) 36 (flc a) 38 Tryd.zeroCells30 30 (vis 0 0) 32
        unfold flc vis at hW
        rw [hW]; clear hW
        go_wp2_with (first
          | (go_at_call 38; refine (l02Asked_any f hf g hg a HAF.out w.heap.size (w.heap.size + 1) (w.heap.size + 1 + 1) 0 _ (M.at 0 rfl) (M.at 1 rfl) (flc_at (M.at 2 rfl))).mono ?_; rintro e w1 ⟨rfl, rfl⟩; rw [HC.out])
          | (go_at_call 39; refine (HLC.out _ _ _ 0 _ (M.at 0 rfl) (M.at 1 rfl) (flc_at (M.at 2 rfl))).mono ?_; rintro e W2 ⟨rfl, hb⟩; have M2 := M.call hb; clear hb)
          | (go_at_call 40; refine (l02Hunger_any a HAF.out (w.heap.size + 1 + 1) 0 _ (flc_at (M2.at 2 rfl))).mono ?_; rintro e W3 ⟨rfl, hb⟩; rw [HH.out]; have M3 := M2.call hb; clear hb)
          | (refine wpList_store_row rfl 30 _ _ rfl (w.heap.size + 1 + 1 + 1) Tryd.zeroCells30 rfl rfl 30 _ (M3.at 3 rfl) (by rw [hz.out]; exact sizeFd) (by rw [hz.out]) hz1.out ?_; have MX := M3.row 3 rfl Tryd.zeroCells30; clear M3)
          | (refine wpList_store_row rfl 32 _ _ rfl (w.heap.size + 1 + 1 + 1 + 1) (vis 0 0) rfl rfl 32 _ (MX.at 4 rfl) (by rw [vis_size]; exact sizeVis) (by simp only [vis_size]) (vis_one _ _) ?_; have MY := MX.row 4 rfl (vis 0 0); clear MX))
        exact bodyPost_ret (results_row2_tmp rfl _ _ (w.heap.size + 1 + 1 + 1) (w.heap.size + 1 + 1 + 1 + 1) 30 32 _ _ _ _ rfl rfl (MY.at 3 rfl) (MY.at 4 rfl) Tryd.underlying30 rfl (by rw [hz.out]; exact sizeFd) Tryd.underlying32 rfl (by rw [vis_size]; exact sizeVis)) rfl ⟨by rw [HF.out, HV.out, HE.out]; rfl, MY.below⟩
      · obtain ⟨hS3, hS4⟩ := ok_seeds hfo hn
        obtain ⟨m, hm⟩ : ∃ m, a 1 * a 2 = m := ⟨_, rfl⟩
        have HH := Lib.hid hm
        rw [hm] at hhun hz0 hF9 hV9
        obtain ⟨hm0, hm1⟩ := hhun
        obtain ⟨ht3, ht4⟩ := minI_le hm0 hS3
        have HEAT := Lib.hid (fun w => l02Eat_any f n hn hS3 hS4 m hm0 (by omega) w)
        obtain ⟨FF, hFF⟩ : ∃ FF, turned f n (f.K n) (f.S n - minI m (f.S n)) = FF := ⟨_, rfl⟩
        obtain ⟨x, hx⟩ : ∃ x, minI m (f.S n) = x := ⟨_, rfl⟩
        rw [hFF] at HEAT hF9
        rw [hx] at HEAT hV9 ht3 ht4
        have HF := Lib.hid hF9
        have HV := Lib.hid hV9
        have HE := Lib.hid hec
        have hx2 : x ≤ 1000 := by omega
        clear hok hcode hec ha h0 h5 hcc hlen hch hfo hcv hen hF9 hV9 hFF hx hS3 hS4 ht4 hm hm0 hm1 hn
        go_enter Tryd.func9, Tryd.ntmps9
        go_upto_region 1 with (fail)
        obtain ⟨W, hW, M⟩ := open5 w (fcells f) 30 (acells .i16 100 g) 36 (flc a) 38 Tryd.zeroCells30 30 (vis 0 0) 32
        unfold flc vis at hW
        rw [hW]; clear hW
        go_upto_region 11 with (first
          | (go_at_call 38; refine (l02Asked_any f hf g hg a HAF.out w.heap.size (w.heap.size + 1) (w.heap.size + 1 + 1) 0 _ (M.at 0 rfl) (M.at 1 rfl) (flc_at (M.at 2 rfl))).mono ?_; rintro e w1 ⟨rfl, rfl⟩; rw [HC.out])
          | (go_at_call 39; refine (HLC.out _ _ _ 0 _ (M.at 0 rfl) (M.at 1 rfl) (flc_at (M.at 2 rfl))).mono ?_; rintro e W2 ⟨rfl, hb⟩; have M2 := M.call hb; clear hb)
          | (go_at_call 40; refine (l02Hunger_any a HAF.out (w.heap.size + 1 + 1) 0 _ (flc_at (M2.at 2 rfl))).mono ?_; rintro e W3 ⟨rfl, hb⟩; rw [HH.out]; have M3 := M2.call hb; clear hb))
        refine wp_region_rel_edges [(8, 6)] 8 (DL [dV (.agg (fcells f)), dV (.int .i64 n), dV (.int .i64 m), dV (.tuple #[.agg (fcells FF), .int .i64 x]), dV (.tuple #[.agg (fcells FF), .int .i64 x]), dV (.agg (fcells FF)), dV (.int .i64 x), dB (Tryd.zeroCells30) 30]) (C := fun w' => Mem w w' [⟨w.heap.size, fcells f, 30⟩, ⟨w.heap.size + 1, acells .i16 100 g, 36⟩, ⟨w.heap.size + 1 + 1, flc a, 38⟩, ⟨w.heap.size + 1 + 1 + 1, Tryd.zeroCells30, 30⟩, ⟨w.heap.size + 1 + 1 + 1 + 1, vis 0 0, 32⟩]) (fun _ _ _ _ _ h => h) (by kernel_rfl) (by kernel_rfl) (by kernel_rfl) grows_mem
          (stays_DL (fun d hd => by
            simp only [List.mem_cons, List.mem_nil_iff, or_false] at hd
            rcases hd with rfl | rfl | rfl | rfl | rfl | rfl | rfl | rfl <;> first | exact stay_V | exact stay_B)) M3.drew ?_
        refine rel_load 30 _ rfl (w.heap.size) (0) rfl (fcells f) _ rfl rfl (fun w' hw' => (hw'.at 0 rfl).whole) Tryd.underlying30 rfl (by rw [fcells_size]; exact sizeFd) (fun _ => ?_)
        simp only [Act.put, List.setIfInBounds_toArray, List.set_cons_zero, List.set_cons_succ]
        refine rel_val _ rfl rfl (fun _ _ => rfl) (fun _ => ?_)
        simp only [Act.put, List.setIfInBounds_toArray, List.set_cons_zero, List.set_cons_succ]
        refine rel_call (.int .i64 m) 40 #[.pointer (some ⟨w.heap.size + 1 + 1, 0, none⟩)] rfl rfl rfl rfl (enters_of Tryd.func40 (by kernel_rfl) rfl) (fun w' hw' => by rw [← HH.out]; exact l02Hunger_any a HAF.out (w.heap.size + 1 + 1) 0 w' (flc_at (hw'.at 2 rfl))) (fun _ => ?_)
        simp only [Act.put, List.setIfInBounds_toArray, List.set_cons_zero, List.set_cons_succ]
        refine rel_call (.tuple #[.agg (fcells FF), .int .i64 x]) 41 #[.agg (fcells f), .int .i64 n, .int .i64 m] rfl rfl rfl rfl (enters_of Tryd.func41 (by kernel_rfl) rfl) (fun w' _ => HEAT.out w') (fun _ => ?_)
        simp only [Act.put, List.setIfInBounds_toArray, List.set_cons_zero, List.set_cons_succ]
        refine rel_val _ rfl rfl (fun _ _ => rfl) (fun _ => ?_)
        simp only [Act.put, List.setIfInBounds_toArray, List.set_cons_zero, List.set_cons_succ]
        refine rel_val _ rfl rfl (fun _ _ => rfl) (fun _ => ?_)
        simp only [Act.put, List.setIfInBounds_toArray, List.set_cons_zero, List.set_cons_succ]
        refine rel_val _ rfl rfl (fun _ _ => rfl) (fun _ => ?_)
        simp only [Act.put, List.setIfInBounds_toArray, List.set_cons_zero, List.set_cons_succ]
        refine rel_alloc (Tryd.zeroCells30) 30 rfl rfl (fun _ => by rfl) (fun nb => ?_)
        simp only [Act.put, List.setIfInBounds_toArray, List.set_cons_zero, List.set_cons_succ]
        refine rel_nil (fun W6 inv => ?_)
        have MA := inv.mem1 (i := 7) M3 inv.cls rfl
        clear inv M3
        change wpList _ _ _ (_ :: [_]) _ _
        generalize List.toArray (List.foldl addEdge _ _) = ops9
        refine wpList_store_row rfl 30 _ _ rfl nb (fcells FF) rfl rfl 30 _ (MA.at 5 rfl) (by rw [fcells_size]; exact sizeFd) (by rw [hz.out, fcells_size]) (fcells_one _) ?_
        have MB0 := MA.row 5 rfl (fcells FF)
        clear MA
        generalize World.setRow _ _ _ = V7 at MB0 ⊢
        have M7 : Mem w V7 [⟨w.heap.size, fcells f, 30⟩, ⟨w.heap.size + 1, acells .i16 100 g, 36⟩, ⟨w.heap.size + 1 + 1, flc a, 38⟩, ⟨w.heap.size + 1 + 1 + 1, Tryd.zeroCells30, 30⟩, ⟨w.heap.size + 1 + 1 + 1 + 1, vis 0 0, 32⟩, ⟨nb, fcells FF, 30⟩] := MB0
        clear MB0
        go_wp2_with (first
          | (refine wpList_load_part rfl 30 _ rfl nb 0 rfl (fcells FF) _ (M7.at 5 rfl).whole Tryd.underlying30 rfl (by rw [fcells_size]; exact sizeFd) ?_)
          | (refine wpList_store_row rfl 30 _ _ rfl (w.heap.size + 1 + 1 + 1) (fcells FF) rfl rfl 30 _ (M7.at 3 rfl) (by rw [fcells_size]; exact sizeFd) (by rw [hz.out, fcells_size]) (fcells_one _) ?_; have MX := M7.row 3 rfl (fcells FF); clear M7)
          | (refine wpList_store_row rfl 32 _ _ rfl (w.heap.size + 1 + 1 + 1 + 1) (vis n x) rfl rfl 32 _ (MX.at 4 rfl) (by rw [vis_size]; exact sizeVis) (by simp only [vis_size]) (vis_one _ _) ?_; have MY := MX.row 4 rfl (vis n x); clear MX))
        exact bodyPost_ret (results_row2_tmp rfl _ _ (w.heap.size + 1 + 1 + 1) (w.heap.size + 1 + 1 + 1 + 1) 30 32 _ _ _ _ rfl rfl (MY.at 3 rfl) (MY.at 4 rfl) Tryd.underlying30 rfl (by rw [fcells_size]; exact sizeFd) Tryd.underlying32 rfl (by rw [vis_size]; exact sizeVis)) rfl ⟨by rw [HF.out, HV.out, HE.out]; rfl, MY.below⟩
end Go.Proofs.YtaioflkonpommaaDoor
