/-
  ApplyEntry: the model's and the program's.
-/
import Derived.Test.YtfapmofobhbdgaaDoorApplied
namespace Go.Proofs.YtfapmofobhbdgaaDoor
open Go Go.RowKit

/-- The code of ApplyEntry, and its field. -/
def aeCode (f : Fd) (a : Nat → Int) : Int := if okF f = true then apCode f a else 1
def aeOut (f : Fd) (a : Nat → Int) : Fd := if aeCode f a = 0 then apField f a else Fd.zero
theorem ap_mem {w W W2 : World} {cs cs' : Array Value} {t : TypeId} {L : List Ent} (M : Mem w W (⟨w.heap.size, cs, t⟩ :: L)) {r : Option Nat} (hr : r = some w.heap.size) (hg : W.grownBy W2 r) (hB : Blk W2 w.heap.size cs' t) : Mem w W2 (⟨w.heap.size, cs', t⟩ :: L) := by
  subst hr
  refine M.put 0 cs' rfl ?_ hB ?_
  · exact ⟨hg.os.trans M.below.os, hg.tape.trans M.below.tape, hg.output.trans M.below.output, Nat.le_trans M.below.size hg.size, fun k hk => (hg.block k (Nat.lt_of_lt_of_le hk M.below.size) (fun e => by cases e; exact Nat.lt_irrefl _ hk)).trans (M.below.block k hk)⟩
  · intro b cs t hne hb
    unfold Blk
    rw [hg.block b hb.lt (fun e => hne (by cases e; rfl))]
    exact hb
theorem apField_W (f : Fd) (a : Nat → Int) : (apField f a).W = f.W ∧ (apField f a).H = f.H := by
  unfold apField; split <;> exact ⟨rfl, rfl⟩
theorem aeOut_size (f : Fd) (hf : f.Wf) (a : Nat → Int) : (-128 ≤ (aeOut f a).W ∧ (aeOut f a).W ≤ 127) ∧ (-128 ≤ (aeOut f a).H ∧ (aeOut f a).H ≤ 127) := by
  have h1 := hf.W
  have h2 := hf.H
  obtain ⟨e1, e2⟩ := apField_W f a
  unfold aeOut
  split
  · rw [e1, e2]; exact ⟨h1, h2⟩
  · exact ⟨⟨by decide, by decide⟩, ⟨by decide, by decide⟩⟩
theorem aeOut_no {f : Fd} {a : Nat → Int} {c : Int} (h : aeCode f a = c) (hc : c ≠ 0) : fcells (aeOut f a) = Tryd.zeroCells30 := by
  unfold aeOut; rw [if_neg (by rw [h]; exact hc), zeroFd]
theorem ap_codes (f : Fd) (a : Nat → Int) : apCode f a = 0 ∨ ∃ k : Nat, 1 ≤ k ∧ k ≤ 8 ∧ apCode f a = k := by
  unfold apCode
  repeat' split
  all_goals first | exact .inl rfl | exact .inr ⟨2, by omega, by omega, rfl⟩ | exact .inr ⟨3, by omega, by omega, rfl⟩ | exact .inr ⟨4, by omega, by omega, rfl⟩ | exact .inr ⟨8, by omega, by omega, rfl⟩
set_option maxRecDepth 100000 in
set_option maxHeartbeats 4000000 in
theorem specApplyEntry (f : Fd) (hf : f.Wf) (a : Nat → Int) (ha : WfEn a) (w : World) :
    Calls Tryd.prog 7 #[.agg (fcells f), vEntry a] w fun e w' => e = .returned (.tuple #[.agg (fcells (aeOut f a)), .int .i64 (aeCode f a)]) ∧ Below w.heap.size w w' := by
  have HA := Lib.hid ha
  clear ha
  have hz : Hid (Tryd.zeroCells30.size = 202) := Lib.hid (by rw [zeroFd, fcells_size])
  have hz1 : Hid (Tryd.zeroCells30.all (·.oneCell') = true) := Lib.hid (by rw [zeroFd]; exact fcells_one _)
  cases hok : okF f with
  | false =>
    have hc : Hid (aeCode f a = 1) := Lib.hid (by unfold aeCode; rw [hok]; rfl)
    have hout : Hid (fcells (aeOut f a) = Tryd.zeroCells30) := Lib.hid (aeOut_no hc.out (by decide))
    have HOK := Lib.hid hok
    clear hok
    go_enter Tryd.func7, Tryd.ntmps7
    go_upto_region 1 with (fail)
    obtain ⟨W, hW, M⟩ := open3 w (fcells f) 30 (cEnt a) 34 Tryd.zeroCells30 30
    (try rw [hW]); clear hW
    go_wp2_with (first
      | (go_at_call 27; refine (l01Ok_any f hf w.heap.size _ (M.at 0 rfl)).mono ?_; rintro e w1 ⟨rfl, rfl⟩; rw [HOK.out])
      | (refine wpList_store_row rfl 30 _ _ rfl (w.heap.size + 1 + 1) Tryd.zeroCells30 rfl rfl 30 _ (M.at 2 rfl) (by rw [hz.out]; exact sizeFd) (by rw [hz.out]) hz1.out ?_))
    have M10 := M.row 2 rfl Tryd.zeroCells30
    exact bodyPost_ret (results_row_tmp rfl _ _ (w.heap.size + 1 + 1) 30 _ _ _ rfl (M10.at 2 rfl) Tryd.underlying30 rfl (by rw [hz.out]; exact sizeFd)) rfl ⟨by rw [hout.out, hc.out]; rfl, M10.below⟩
  | true =>
  have hcc := ap_codes f a
  have hae : aeCode f a = apCode f a := by unfold aeCode; rw [hok]; rfl
  have HOK := Lib.hid hok
  clear hok
  rcases hcc with h0 | ⟨k, hk1, hk8, hk⟩
  · have hc : Hid (aeCode f a = 0) := Lib.hid (by rw [hae, h0])
    have hout : Hid (aeOut f a = apField f a) := Lib.hid (by unfold aeOut; rw [hae, h0]; rfl)
    have HC := Lib.hid h0
    clear h0 hae
    go_enter Tryd.func7, Tryd.ntmps7
    go_upto_region 1 with (fail)
    obtain ⟨W, hW, M⟩ := open3 w (fcells f) 30 (cEnt a) 34 Tryd.zeroCells30 30
    (try rw [hW]); clear hW
    go_wp2_with (first
      | (go_at_call 27; refine (l01Ok_any f hf w.heap.size _ (M.at 0 rfl)).mono ?_; rintro e w1 ⟨rfl, rfl⟩; rw [HOK.out])
      | (refine wpList_load_part rfl 34 _ rfl (w.heap.size + 1) 0 rfl (cEnt a) _ (M.at 1 rfl).whole Tryd.underlying34 rfl (by kernel_rfl) ?_)
      | (go_at_call 28; refine (l07Apply_any f hf HOK.out a HA.out w.heap.size _ (M.at 0 rfl)).mono ?_; rintro e W2 ⟨rfl, hg, hB⟩; rw [HC.out]; have M2 := ap_mem M rfl hg hB; clear hg hB)
      | (refine wpList_load_part rfl 30 _ rfl w.heap.size 0 rfl (fcells (apField f a)) _ (M2.at 0 rfl).whole Tryd.underlying30 rfl (by rw [fcells_size]; exact sizeFd) ?_)
      | (refine wpList_store_row rfl 30 _ _ rfl (w.heap.size + 1 + 1) (fcells (apField f a)) rfl rfl 30 _ (M2.at 2 rfl) (by rw [fcells_size]; exact sizeFd) (by rw [hz.out, fcells_size]) (fcells_one _) ?_))
    have M10 := M2.row 2 rfl (fcells (apField f a))
    exact bodyPost_ret (results_row_tmp rfl _ _ (w.heap.size + 1 + 1) 30 _ _ _ rfl (M10.at 2 rfl) Tryd.underlying30 rfl (by rw [fcells_size]; exact sizeFd)) rfl ⟨by rw [hout.out, hc.out]; rfl, M10.below⟩
  · have hk0 : (k : Int) ≠ 0 := by omega
    have hc : Hid (aeCode f a = k) := Lib.hid (by rw [hae, hk])
    have hout : Hid (fcells (aeOut f a) = Tryd.zeroCells30) := Lib.hid (aeOut_no hc.out hk0)
    have HC := Lib.hid hk
    have hkb : ((k : Int) != 0) = true := by simpa using hk0
    clear hk hae hk0 hk1 hk8
    go_enter Tryd.func7, Tryd.ntmps7
    go_upto_region 1 with (fail)
    obtain ⟨W, hW, M⟩ := open3 w (fcells f) 30 (cEnt a) 34 Tryd.zeroCells30 30
    (try rw [hW]); clear hW
    go_wp2_with (first
      | (go_at_call 27; refine (l01Ok_any f hf w.heap.size _ (M.at 0 rfl)).mono ?_; rintro e w1 ⟨rfl, rfl⟩; rw [HOK.out])
      | (refine wpList_load_part rfl 34 _ rfl (w.heap.size + 1) 0 rfl (cEnt a) _ (M.at 1 rfl).whole Tryd.underlying34 rfl (by kernel_rfl) ?_)
      | (go_at_call 28; refine (l07Apply_any f hf HOK.out a HA.out w.heap.size _ (M.at 0 rfl)).mono ?_; rintro e W2 ⟨rfl, hg, hB⟩; rw [HC.out]; have M2 := ap_mem M rfl hg hB; clear hg hB)
      | (refine wpList_store_row rfl 30 _ _ rfl (w.heap.size + 1 + 1) Tryd.zeroCells30 rfl rfl 30 _ (M2.at 2 rfl) (by rw [hz.out]; exact sizeFd) (by rw [hz.out]) hz1.out ?_))
    have M10 := M2.row 2 rfl Tryd.zeroCells30
    exact bodyPost_ret (results_row_tmp rfl _ _ (w.heap.size + 1 + 1) 30 _ _ _ rfl (M10.at 2 rfl) Tryd.underlying30 rfl (by rw [hz.out]; exact sizeFd)) rfl ⟨by rw [hout.out, hc.out]; rfl, M10.below⟩

set_option maxRecDepth 100000 in
set_option maxHeartbeats 8000000 in
theorem implApplyEntry (f : Fd) (hf : f.Wf) (a : Nat → Int) (ha : WfEn a) (A : Nat → Addr) (w : World) (S0 : Sents w A) :
    Calls Tryd.prog 10 #[.agg (fcells f), vEntry a] w fun e w' => e = .returned (.tuple #[.agg (fcells (aeOut f a)), .int .i64 (aeCode f a)]) ∧ Below w.heap.size w w' := by
  have S : Hid (Sents w A) := Lib.hid S0
  clear S0
  have HA := Lib.hid ha
  clear ha
  have hif := isIfaceErr
  have hz : Hid (Tryd.zeroCells30.size = 202) := Lib.hid (by rw [zeroFd, fcells_size])
  have hz1 : Hid (Tryd.zeroCells30.all (·.oneCell') = true) := Lib.hid (by rw [zeroFd]; exact fcells_one _)
  cases hok : okF f with
  | false =>
    have hc : Hid (aeCode f a = 1) := Lib.hid (by unfold aeCode; rw [hok]; rfl)
    have hout : Hid (fcells (aeOut f a) = Tryd.zeroCells30) := Lib.hid (aeOut_no hc.out (by decide))
    have HOK := Lib.hid hok
    clear hok
    go_enter Tryd.func10, Tryd.ntmps10
    go_upto_region 1 with (fail)
    obtain ⟨W, hW, M⟩ := open3 w (fcells f) 30 (cEnt a) 34 Tryd.zeroCells30 30
    (try rw [hW]); clear hW
    go_wp2_with (first
      | (refine wpList_load_part rfl 30 _ rfl w.heap.size 0 rfl (fcells (f)) _ (M.at 0 rfl).whole Tryd.underlying30 rfl (by rw [fcells_size]; exact sizeFd) ?_)
      | (go_at_call 31; refine (checkFields1 f hf A _ _ _ (Blk.new _ _ _) (S.out.later (M.alloc _ _).below)).mono ?_; rintro e W2 ⟨rfl, hb⟩; rw [HOK.out, errIf_false]; have M2 := (M.alloc _ _).call hb; clear hb)
      | (go_at_call 32; refine (codeOf_err A 1 (by omega) (by omega) _ (S.out.later M2.below)).mono ?_; rintro e W3 ⟨rfl, rfl⟩)
      | (refine wpList_store_row rfl 30 _ _ rfl (w.heap.size + 1 + 1) Tryd.zeroCells30 rfl rfl 30 _ (M2.at 2 rfl) (by rw [hz.out]; exact sizeFd) (by rw [hz.out]) hz1.out ?_)
      | (refine wpList_buildRow rfl 89 30 _ rfl (fcells f) rfl Tryd.underlying89 (by rw [fcells_size]; exact sizeFd) (by rw [fcells_size]; kernel_rfl) (by rw [fcells_size]; omega) (by rw [fcells_size]; omega) ?_))
    have M10 := M2.row 2 rfl Tryd.zeroCells30
    exact bodyPost_ret (results_row_tmp rfl _ _ (w.heap.size + 1 + 1) 30 _ _ _ rfl (M10.at 2 rfl) Tryd.underlying30 rfl (by rw [hz.out]; exact sizeFd)) rfl ⟨by rw [hout.out, hc.out]; rfl, M10.below⟩
  | true =>
  have hae : Hid (aeCode f a = apCode f a) := Lib.hid (by unfold aeCode; rw [hok]; rfl)
  have hout : Hid (aeOut f a = apOut f a) := Lib.hid (by unfold aeOut apOut; rw [hae.out])
  have HOK := Lib.hid hok
  clear hok
  have HCO : Hid (∀ w' : World, Sents w' A → Calls Tryd.prog 32 #[apErr A (apCode f a)] w' fun e w2 => e = .returned (.int .i64 (apCode f a)) ∧ Below w'.heap.size w' w2) := Lib.hid (fun w' S' => by
    rcases ap_codes f a with h0 | ⟨k, hk1, hk8, hk⟩
    · rw [h0]
      exact (codeOf_nil A w' S').mono (fun e w2 h => ⟨h.1, by rw [← h.2]; exact Below.refl _ _⟩)
    · rw [hk]
      unfold apErr
      rw [if_neg (by omega), Int.toNat_natCast]
      exact (codeOf_err A k hk1 hk8 w' S').mono (fun e w2 h => ⟨h.1, by rw [← h.2]; exact Below.refl _ _⟩))
  obtain ⟨er, her⟩ : ∃ er, apErr A (apCode f a) = er := ⟨_, rfl⟩
  rw [her] at HCO
  have HER := Lib.hid her
  clear her
  go_enter Tryd.func10, Tryd.ntmps10
  go_upto_region 1 with (fail)
  obtain ⟨W, hW, M⟩ := open3 w (fcells f) 30 (cEnt a) 34 Tryd.zeroCells30 30
  (try rw [hW]); clear hW
  obtain ⟨nb, hnb⟩ : ∃ nb, nb = W.heap.size := ⟨_, rfl⟩
  go_upto_region 5 with (first
    | (refine wpList_load_part rfl 30 _ rfl w.heap.size 0 rfl (fcells (f)) _ (M.at 0 rfl).whole Tryd.underlying30 rfl (by rw [fcells_size]; exact sizeFd) ?_)
    | (go_at_call 31; refine (checkFields1 f hf A _ _ _ (Blk.new _ _ _) (S.out.later (M.alloc _ _).below)).mono ?_; rintro e W2 ⟨rfl, hb⟩; rw [HOK.out, errIf_true]; have M2 := (M.alloc _ _).call hb; clear hb)
    | (refine wpList_buildRow rfl 89 30 _ rfl (fcells f) rfl Tryd.underlying89 (by rw [fcells_size]; exact sizeFd) (by rw [fcells_size]; kernel_rfl) (by rw [fcells_size]; omega) (by rw [fcells_size]; omega) ?_)
    | (refine wpList_load_part rfl 30 _ rfl w.heap.size 0 rfl (fcells (f)) _ (M2.at 0 rfl).whole Tryd.underlying30 rfl (by rw [fcells_size]; exact sizeFd) ?_)
    | (refine wpList_load_part rfl 34 _ rfl (w.heap.size + 1) 0 rfl (cEnt a) _ (M2.at 1 rfl).whole Tryd.underlying34 rfl (by kernel_rfl) ?_)
    | (go_at_call 33; refine (applied_any f hf HOK.out a HA.out A _ (S.out.later M2.below)).mono ?_; rintro e W3 ⟨rfl, hb⟩; rw [HER.out]; have M3 := M2.call hb; clear hb)
    | (refine wpList_store_row rfl 30 _ _ rfl W3.heap.size (fcells (apOut f a)) rfl rfl 30 _ ((M3.alloc Tryd.zeroCells30 30).at 4 rfl) (by rw [fcells_size]; exact sizeFd) (by rw [hz.out, fcells_size]) (fcells_one _) ?_))
  have M5 := (M3.alloc Tryd.zeroCells30 30).row 4 rfl (fcells (apOut f a))
  rw [← hnb] at M5
  obtain ⟨ob, hob⟩ : ∃ ob, ob = W3.heap.size := ⟨_, rfl⟩
  rw [← hob] at M5 ⊢
  generalize World.setRow _ _ _ = W6 at M5 ⊢
  have M6 : Hid (Mem w W6 [⟨w.heap.size, fcells f, 30⟩, ⟨w.heap.size + 1, cEnt a, 34⟩, ⟨w.heap.size + 1 + 1, Tryd.zeroCells30, 30⟩, ⟨nb, fcells f, 30⟩, ⟨ob, fcells (apOut f a), 30⟩]) := Lib.hid M5
  clear M M2 M3 M5 hnb hob
  refine wp_region_rel_tail 3 (DL [dV (.agg (fcells (apOut f a))), dV (er), dV (.int .i64 (apCode f a))]) (fun w' => Mem w w' [⟨w.heap.size, fcells f, 30⟩, ⟨w.heap.size + 1, cEnt a, 34⟩, ⟨w.heap.size + 1 + 1, Tryd.zeroCells30, 30⟩, ⟨nb, fcells f, 30⟩, ⟨ob, fcells (apOut f a), 30⟩]) (by kernel_rfl) (by kernel_rfl) grows_mem
    (stays_DL (fun d hd => by
      simp only [List.mem_cons, List.mem_nil_iff, or_false] at hd
      rcases hd with rfl | rfl | rfl <;> exact stay_V)) M6.out.drew ?_
  refine rel_load 30 _ rfl ob 0 rfl (fcells (apOut f a)) _ rfl rfl (fun w' hw' => (hw'.at 4 rfl).whole) Tryd.underlying30 rfl (by rw [fcells_size]; exact sizeFd) (fun _ => ?_)
  simp only [Act.put, List.setIfInBounds_toArray, List.set_cons_zero, List.set_cons_succ]
  refine rel_val _ rfl rfl (fun _ _ => rfl) (fun _ => ?_)
  simp only [Act.put, List.setIfInBounds_toArray, List.set_cons_zero, List.set_cons_succ]
  refine rel_call (.int .i64 (apCode f a)) 32 #[er] rfl rfl rfl rfl (enters_of Tryd.func32 (by kernel_rfl) rfl) (fun w' hw' => HCO.out w' (S.out.later hw'.below)) (fun _ => ?_)
  simp only [Act.put, List.setIfInBounds_toArray, List.set_cons_zero, List.set_cons_succ]
  refine rel_nil (fun W7 inv => ?_)
  have M7 := inv.cls
  clear inv M6
  change wpList _ _ _ (_ :: [_]) _ _
  refine wpList_store_row rfl 30 _ _ rfl (w.heap.size + 1 + 1) (fcells (apOut f a)) rfl rfl 30 _ (M7.at 2 rfl) (by rw [fcells_size]; exact sizeFd) (by rw [hz.out, fcells_size]) (fcells_one _) ?_
  have M10 := M7.row 2 rfl (fcells (apOut f a))
  generalize World.setRow _ _ _ = W8 at M10 ⊢
  go_wp2_with fail
  exact bodyPost_ret (results_row_tmp rfl _ _ (w.heap.size + 1 + 1) 30 _ _ _ rfl (M10.at 2 rfl) Tryd.underlying30 rfl (by rw [fcells_size]; exact sizeFd)) rfl ⟨by rw [hout.out, hae.out]; rfl, M10.below⟩
end Go.Proofs.YtfapmofobhbdgaaDoor
