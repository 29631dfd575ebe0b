/-
  Cells that are apart: the program's.
-/
import Derived.Test.YtidddepdjokjcaaDoorApaS
import Derived.Test.YtidddepdjokjcaaDoorTak
import Derived.Test.YtidddepdjokjcaaDoorCovI
namespace Go.Proofs.YtidddepdjokjcaaDoor
open Go Go.RowKit Go.Shelf
attribute [local go_sem] Oper.semAt_some

theorem hasC_orA {f g : Nat → Int} (hf : U64 f) (hg : U64 g) {j : Nat} (hj : j < 100) : hasC (joinC .or f g) (j : Int) = (hasC f (j : Int) || hasC g (j : Int)) := by
  obtain ⟨a, b, ea, eb, ha, hb, h, _⟩ := or_nat hf hg (j / 64)
  have hab : a ||| b < 18446744073709551616 := by rw [p64] at ha hb ⊢; exact or_bound ha hb
  rw [hasC_bit hj h hab, hasC_bit hj ea ha, hasC_bit hj eb hb, Nat.testBit_or]
theorem want_N100A (f : Fd) (q : Nat → Bool) : ∀ n, n ≤ 100 → N100 (wantSet f q n)
  | 0, _ => zero_N100
  | n + 1, h => by
    cases e : (isCell f n && q n) with
    | true =>
      have e' := e
      simp only [Bool.and_eq_true] at e'
      rw [wantSet_yes e'.1 e'.2]; exact putC_N100 (want_N100A f q n (by omega)) (by omega)
    | false => rw [wantSet_no e]; exact want_N100A f q n (by omega)
/-- What covers one of some cells. -/
def unF (CS : Int → Nat → Int) (R : List Int) (u : Nat → Int) : Nat → Int := R.foldl (fun u r => joinC .or u (CS r)) u
def unS (CS : Int → Nat → Int) (R : List Int) : Nat → Int := unF CS R (fun _ => 0)
theorem unS_snoc (CS : Int → Nat → Int) (R : List Int) (c : Int) : unS CS (R ++ [c]) = joinC .or (unS CS R) (CS c) := by simp [unS, unF, List.foldl_append]
theorem unF_N100 {CS : Int → Nat → Int} (hN : ∀ c, N100 (CS c)) : ∀ (R : List Int) (u : Nat → Int), N100 u → N100 (unF CS R u)
  | [], _, h => h
  | r :: R, _, h => unF_N100 hN R _ (or_N100 h (hN r))
theorem unF_has {CS : Int → Nat → Int} (hN : ∀ c, N100 (CS c)) {j : Nat} (hj : j < 100) : ∀ (R : List Int) (u : Nat → Int), N100 u → hasC (unF CS R u) (j : Int) = (hasC u (j : Int) || R.any (fun r => hasC (CS r) (j : Int)))
  | [], u, _ => by simp [unF]
  | r :: R, u, h => by
    have ih := unF_has hN hj R _ (or_N100 h (hN r))
    show hasC (unF CS R (joinC .or u (CS r))) (j : Int) = _
    rw [ih, hasC_orA h.1 (hN r).1 hj, List.any_cons, Bool.or_assoc]
theorem fine_iff {CS : Int → Nat → Int} (hN : ∀ c, N100 (CS c)) (R : List Int) (c : Int) : fineT CS R c R.length = true ↔ (joinC .and (unS CS R) (CS c) 0 = 0 ∧ joinC .and (unS CS R) (CS c) 1 = 0) := by
  refine Iff.trans ?_ (meet_zero (f := unS CS R) (unF_N100 hN R _ zero_N100) (hN c).1).symm
  unfold fineT
  rw [allTo_iff]
  have hz : ∀ j : Nat, j < 100 → hasC (unS CS R) (j : Int) = R.any (fun r => hasC (CS r) (j : Int)) := fun j hj => by
    unfold unS
    rw [unF_has hN hj R _ zero_N100, hasC_zero j hj, Bool.false_or]
  constructor
  · intro h j hj
    show (hasC (unS CS R) (j : Int) && _) = false
    rw [hz j hj]
    cases hb : hasC (CS c) (j : Int) with
    | false => rw [Bool.and_false]
    | true =>
      rw [Bool.and_true, List.any_eq_false]
      intro r hr
      obtain ⟨i, hi, rfl⟩ := List.getElem_of_mem hr
      have h1 := h i hi
      unfold dj at h1
      rw [allTo_iff] at h1
      have h2 := h1 j hj
      simp only [List.getD, List.getElem?_eq_getElem hi, Option.getD_some, hb, Bool.and_true] at h2
      simpa using h2
  · intro h i hi
    unfold dj
    rw [allTo_iff]
    intro j hj
    have h1 : (hasC (unS CS R) (j : Int) && hasC (CS c) (j : Int)) = false := h j hj
    rw [hz j hj] at h1
    cases hb : hasC (CS c) (j : Int) with
    | false => rw [Bool.and_false]; rfl
    | true =>
      rw [hb, Bool.and_true, List.any_eq_false] at h1
      have h2 := h1 _ (getD_mem hi)
      simpa using h2
/-- One step of the program's. -/
def takB (CS : Int → Nat → Int) (R : List Int) (c : Int) : Bool := !(inL (fun i => R.getD i 0) R.length c) && fineT CS R c R.length
def takX (CS : Int → Nat → Int) (R : List Int) (c : Int) : List Int := if takB CS R c = true then R ++ [c] else R
def apX {X : Type} (CS : Int → Nat → Int) (val : X → Nat) (l : List X) : List Int := l.foldl (fun R c => takX CS R (val c : Int)) []
theorem apX_snoc {X : Type} (CS : Int → Nat → Int) (val : X → Nat) (l : List X) (c : X) : apX CS val (l ++ [c]) = takX CS (apX CS val l) (val c : Int) := by simp [apX, List.foldl_append]
theorem takX_len (CS : Int → Nat → Int) (R : List Int) (c : Int) : (takX CS R c).length ≤ R.length + 1 := by
  unfold takX; split
  · simp
  · omega
theorem apF_len {X : Type} (CS : Int → Nat → Int) (val : X → Nat) : ∀ (l : List X) (R : List Int), (l.foldl (fun R c => takX CS R (val c : Int)) R).length ≤ R.length + l.length
  | [], R => by simp
  | c :: l, R => by
    have h1 := apF_len CS val l (takX CS R (val c : Int))
    have h2 := takX_len CS R (val c : Int)
    simp only [List.foldl_cons, List.length_cons]; omega
theorem apX_len {X : Type} (CS : Int → Nat → Int) (val : X → Nat) (l : List X) : (apX CS val l).length ≤ l.length := by
  have := apF_len CS val l []
  simpa [apX] using this
theorem apT_sub (CS : Int → Nat → Int) (L : List Int) : ∀ k c, c ∈ apT CS L k → ∃ i, i < k ∧ c = L.getD i 0
  | 0, c, hc => by simp [apT] at hc
  | k + 1, c, hc => by
    unfold apT at hc
    split at hc
    · rcases List.mem_append.1 hc with h | h
      · obtain ⟨i, hi, e⟩ := apT_sub CS L k c h
        exact ⟨i, by omega, e⟩
      · rw [List.mem_singleton] at h; exact ⟨k, by omega, h⟩
    · obtain ⟨i, hi, e⟩ := apT_sub CS L k c hc
      exact ⟨i, by omega, e⟩
theorem apT_new {CS : Int → Nat → Int} {L : List Int} (hd : L.Nodup) {k : Nat} (hk : k < L.length) : inL (fun i => (apT CS L k).getD i 0) (apT CS L k).length (L.getD k 0) = false := inL_no (fun j hj e => by
  obtain ⟨i, hi, e2⟩ := apT_sub CS L k _ (getD_mem hj)
  rw [e2] at e
  simp only [List.getD, List.getElem?_eq_getElem hk, List.getElem?_eq_getElem (show i < L.length by omega), Option.getD_some] at e
  exact List.pairwise_iff_getElem.1 hd i k (by omega) hk hi e)
theorem apX_take {CS : Int → Nat → Int} {L : List Int} (hd : L.Nodup) : ∀ k, k ≤ L.length → (L.take k).foldl (takX CS) [] = apT CS L k
  | 0, _ => rfl
  | k + 1, hk => by
    have ih := apX_take (CS := CS) hd k (by omega)
    have hlt : k < L.length := by omega
    have hn := apT_new (CS := CS) hd hlt
    rw [List.take_add_one, List.getElem?_eq_getElem hlt, Option.toList_some, List.foldl_append, ih, List.foldl_cons, List.foldl_nil]
    have e : L[k] = L.getD k 0 := by simp [List.getD, List.getElem?_eq_getElem hlt]
    rw [e]
    unfold takX takB
    rw [hn, apT]
    simp
theorem hlist_nodup (g : Nat → Int) (n : Nat) : (hlist g n).Nodup := by
  unfold hlist
  refine List.Pairwise.map _ ?_ (List.Pairwise.filter _ List.nodup_range)
  intro a b h e
  exact h (by omega)
theorem apX_nums (CS : Int → Nat → Int) (g : Nat → Int) : apX CS (fun x : NumOf g => x.1) (numsTo g 100) = apT CS (hlist g 100) (hlist g 100).length := by
  rw [← apX_take (hlist_nodup g 100) _ (Nat.le_refl _), List.take_length, ← nums_hlist g 100 (Nat.le_refl _), List.foldl_map]
  rfl
theorem own_grown {base : Nat} {e : TypeId} {size : Nat} {v : Value} {k : Nat} {xs : List Value} {X Y : World} {row : Option Nat} {B : Nat} (h : X.ownsRow base e size v k xs) (hg : X.grownBy Y row) (hr : ∀ r, row = some r → B ≤ r ∧ ∃ o : Obj, X.heap[r]? = some o ∧ o.isCells = false) : Y.ownsRow base e size v k xs := by
  refine h.kept hg ?_
  rcases h.2 with ⟨rfl, _⟩ | ⟨g, cap, cur, rfl, _, hgb, _⟩
  · exact .inl rfl
  · refine .inr fun e' => ?_
    obtain ⟨_, o, ho, hc⟩ := hr g (by simpa [Value.ownBlock] using e'.symm)
    rw [hgb] at ho; cases ho; cases hc
theorem own_ge {W : World} {base : Nat} {e : TypeId} {size : Nat} {v : Value} {k : Nat} {xs : List Value} (h : W.ownsRow base e size v k xs) {j : Nat} (ej : some j = v.ownBlock) : base ≤ j ∧ ∃ cs t fr, W.heap[j]? = some (.cells cs t fr) := by
  rcases h.2 with ⟨rfl, _⟩ | ⟨g, cap, cur, rfl, hb, hgb, _⟩
  · simp [Value.ownBlock] at ej
  · obtain rfl : j = g := by simpa [Value.ownBlock] using ej
    exact ⟨hb, _, _, _, hgb⟩
theorem Frm.keeps {W W' : World} {gb : Nat} {v : Value} (F : Frm W W' gb v) {cs : Array Value} {t : TypeId} (B : Blk W gb cs t) {base : Nat} {e : TypeId} {size : Nat} {k : Nat} {xs : List Value} (h : W.ownsRow base e size v k xs) : KeepsOthers W W' :=
  ⟨F.2.2.2.1, fun j o hj ho => (F.2.2.2.2 j (Array.getElem?_eq_some_iff.1 hj).1
    (fun ej => by subst ej; rw [show W.heap[j]? = _ from B] at hj; cases hj; cases ho)
    (fun ej => by obtain ⟨_, _, _, _, h2⟩ := own_ge h ej; rw [h2] at hj; cases hj; cases ho)).trans hj⟩
theorem Mem.framed {w W W' : World} {L : List Ent} (H : Mem w W L) {gb : Nat} {v : Value} (F : Frm W W' gb v) (i : Nat) {cs : Array Value} {t : TypeId} (h : L[i]? = some ⟨gb, cs, t⟩) {base : Nat} {e : TypeId} {size : Nat} {k : Nat} {xs : List Value} (hO : W.ownsRow base e size v k xs) (hn : w.heap.size ≤ base) (hne : ∀ x ∈ L, x.t ≠ e) (cs' : Array Value) (hB : Blk W' gb cs' t) : Mem w W' (L.set i ⟨gb, cs', t⟩) := by
  have hgb := (H.blk i _ h).1
  refine ⟨⟨F.1.trans H.below.os, F.2.1.trans H.below.tape, F.2.2.1.trans H.below.output, Nat.le_trans H.below.size F.2.2.2.1, fun j hj => ?_⟩, fun j x hx => ?_, (H.row i h cs').apart⟩
  · refine (F.2.2.2.2 j (Nat.lt_of_lt_of_le hj H.below.size) (fun ej => ?_) (fun ej => ?_)).trans (H.below.block j hj)
    · subst ej; exact absurd hgb (by show ¬ w.heap.size ≤ j; omega)
    · have := (own_ge hO ej).1; omega
  · rw [List.getElem?_set] at hx
    split at hx
    · split at hx
      · cases hx; exact ⟨hgb, hB⟩
      · cases hx
    · rename_i hij
      have hx2 := (H.blk j x hx).2
      refine ⟨(H.blk j x hx).1, ?_⟩
      show W'.heap[x.b]? = _
      rw [F.2.2.2.2 x.b hx2.lt (H.apart j i x _ hx h (fun e => hij e.symm)) (hx2.not_row (hne x (List.mem_of_getElem? hx)) hO)]
      exact hx2
set_option maxRecDepth 100000 in
set_option maxHeartbeats 8000000 in
theorem implApartCells (f : Fd) (hf : f.Wf) (x : Int) (y : Int) (t : Nat → Int) (A : Nat → Addr) (w : World) (S0 : Sents w A) : Calls Tryd.prog 13 #[.agg (fcells f), .int .i64 x, .int .i64 y, .agg (acells .u64 2 t)] w (ApP f x y t w) := by
  have S : Hid (Sents w A) := Lib.hid S0
  clear S0
  have hif := isIfaceErr
  have hgm : apCode f x y = gmCode f (allTo 0 (fun i => isCell f ((fun _ => (0 : Int)) i)) && inB y 1 1000 && inB x 1 1000) := by
    unfold apCode gmCode
    simp only [allTo, List.range_zero, List.all_nil, Bool.true_and]
    cases okF f <;> cases inB x 1 1000 <;> cases inB y 1 1000 <;> rfl
  have HCH := Lib.hid (fun (W : World) (S : Sents W A) => checkCovering_any f hf x y 0 (by omega) (fun _ => (0 : Int)) (fun _ _ => ⟨by decide, by decide⟩) none 0 A W (.inl rfl) S)
  have bad : ∀ k : Nat, 1 ≤ k → k ≤ 8 → apCode f x y = k → Calls Tryd.prog 13 #[.agg (fcells f), .int .i64 x, .int .i64 y, .agg (acells .u64 2 t)] w (ApP f x y t w) := by
    intro k h1 h8 hk
    have HC := Lib.hid hk
    have HE : Hid (askErr A (gmCode f (allTo 0 (fun i => isCell f ((fun _ => (0 : Int)) i)) && inB y 1 1000 && inB x 1 1000)) = errVal (A k)) := Lib.hid (by rw [← hgm, hk]; unfold askErr; rw [if_neg (by omega), Int.toNat_natCast])
    have hk0 : Hid ((k : Int) ≠ 0) := Lib.hid (by omega)
    clear hk hgm
    go_enter Tryd.func13, Tryd.ntmps13
    go_upto_region 1 with (fail)
    obtain ⟨W, hW, M⟩ := open2 w (fcells f) 33 (acells .u64 2 t) 35
    rw [hW]; clear hW
    go_wp2_with (first
      | (refine wpList_load_part rfl 33 _ rfl w.heap.size 0 rfl (fcells f) _ (M.at 0 rfl).whole Tryd.underlying33 rfl (by rw [fcells_size]; exact sizeFd) ?_)
      | (go_at_call 26; refine (HCH.out _ (S.out.later M.below)).mono ?_; rintro e W2 ⟨rfl, hb⟩; rw [HE.out]; have M2 := M.call hb; clear M hb)
      | (go_at_call 27; refine (codeOf_err A k h1 h8 _ (S.out.later M2.below)).mono ?_; rintro e W3 ⟨rfl, rfl⟩))
    go_ret2
    exact apP_bad HC.out hk0.out none 0 M2.below
  rcases gm_cases f (inB x 1 1000 && inB y 1 1000) with ⟨h0, hok, hq⟩ | ⟨h0, _⟩ | ⟨h0, _⟩
  · have hcode : apCode f x y = 0 := h0
    have HC := Lib.hid hcode
    have HE : Hid (askErr A (gmCode f (allTo 0 (fun i => isCell f ((fun _ => (0 : Int)) i)) && inB y 1 1000 && inB x 1 1000)) = .nilIface) := Lib.hid (by rw [← hgm, hcode]; rfl)
    have hxy : inB x 1 1000 = true ∧ inB y 1 1000 = true := by simpa using hq
    have hx := Lib.hid (inB_iff.1 hxy.1)
    obtain ⟨CS, hCS⟩ : ∃ CS, cS f x y = CS := ⟨_, rfl⟩
    obtain ⟨G, hG⟩ : ∃ G, tgS f t = G := ⟨_, rfl⟩
    obtain ⟨PL, hPL⟩ : ∃ PL, apX CS (fun x : NumOf G => x.1) (numsTo G 100) = PL := ⟨_, rfl⟩
    have HPL : Hid (apL f x y t = PL) := Lib.hid (by rw [← hPL, apX_nums, ← hCS, ← hG]; rfl)
    have HX := Lib.hid hPL
    have HN : Hid (∀ c, N100 (CS c)) := Lib.hid (fun c => by rw [← hCS]; exact want_N100A f _ 100 (Nat.le_refl _))
    obtain ⟨AL, hAL⟩ : ∃ AL, cvAll f x y = AL := ⟨_, rfl⟩
    have HAL := Lib.hid hAL
    have HCS : Hid (∀ c, c < 100 → cvrT AL c 100 = CS (c : Int)) := Lib.hid (fun c hc => by rw [← hAL, cvrT_all f x y c hc, ← hCS]; unfold cS; rw [Int.toNat_natCast])
    have HG := Lib.hid hG
    have HOK := Lib.hid hok
    clear bad h0 hok hq hxy hcode hgm hCS hG hPL hAL
    have hdep : Fence.wide.depth.isSome = false := rfl
    have hfn : ∀ k, Fence.wide.fn k := fun _ => trivial
    have hzc : Hid (Tryd.zeroCells65.size = 200) := Lib.hid (by rw [zeroCv, acells_size])
    have hzr : ∀ w : World, (zeroValue 65).run Tryd.prog w = .ok (.agg Tryd.zeroCells65) w := fun w => zero_run (by kernel_rfl) w
    refine (callsIn_wide (n := 3)).1 ?_
    refine callsIn_of_wp_marks Tryd.func13 rfl trivial ?_ rfl
    simp only [Tryd.ntmps13, List.size_toArray, List.length_cons, List.length_nil, Nat.reduceAdd, Nat.reduceSub, Array.replicate_succ, Array.replicate_zero, List.push_toArray, List.append_toArray, List.nil_append, List.cons_append]
    gi_upto_region 1 with (fail)
    obtain ⟨W, hW, M⟩ := open2 w (fcells f) 33 (acells .u64 2 t) 35
    rw [hW]; clear hW
    gi_upto_region 5 with (first
      | (refine loadIn hfn rfl 33 _ rfl w.heap.size 0 rfl (fcells f) _ (M.at 0 rfl).whole Tryd.underlying33 rfl (by rw [fcells_size]; exact sizeFd) ?_)
      | (gi_at_call 26; refine (callsIn_wide.2 (HCH.out _ (S.out.later M.below))).mono ?_; rintro e W2 ⟨rfl, hb⟩; rw [HE.out]; have M2 := M.call hb; clear M hb)
      | (refine loadIn hfn rfl 33 _ rfl w.heap.size 0 rfl (fcells f) _ (M2.at 0 rfl).whole Tryd.underlying33 rfl (by rw [fcells_size]; exact sizeFd) ?_)
      | (gi_at_call 32; refine (callsIn_wide.2 (coversOn_any f hf HOK.out x y hx.out A _ (S.out.later M2.below))).mono ?_; rintro e W3 ⟨rfl, hb⟩; rw [HAL.out]; have M3 := M2.call hb; clear M2 hb; have M4 := M3.alloc Tryd.zeroCells65 65)
      | (refine storeIn hfn rfl 65 _ _ rfl W3.heap.size 0 (acells .u64 200 (flat AL)) rfl rfl ((M4.at 2 rfl).there 0 _ (by rw [hzc.out]; simp only [acells_size]; omega)) (by rw [acells_size]; exact sizeCv) (acells_one _ _ _) ?_))
    obtain ⟨cb, hcb⟩ : ∃ cb, cb = W3.heap.size := ⟨_, rfl⟩
    have M5 : Mem w ((W3.alloc (Obj.cells Tryd.zeroCells65 65)).setCells W3.heap.size 0 (acells .u64 200 (flat AL)).toList) [⟨w.heap.size, fcells f, 33⟩, ⟨w.heap.size + 1, acells .u64 2 t, 35⟩, ⟨cb, acells .u64 200 (flat AL), 65⟩] := by
      rw [hcb]
      exact M4.cells 2 0 (acells .u64 200 (flat AL)).toList rfl _ ((M4.at 2 rfl).over (acells .u64 200 (flat AL)) (by rw [acells_size, hzc.out]))
    generalize World.setCells _ _ _ _ = W4 at M5 ⊢
    rw [← hcb]
    clear hcb M3 M4 hzc hzr
    gi_upto_region 6 with (fail)
    obtain ⟨gb, hgb⟩ : ∃ gb, gb = W4.heap.size := ⟨_, rfl⟩
    have M6 : Mem w (W4.alloc (Obj.cells #[.slice none 0 0, .int .u64 0, .int .u64 0] 68)) [⟨w.heap.size, fcells f, 33⟩, ⟨w.heap.size + 1, acells .u64 2 t, 35⟩, ⟨cb, acells .u64 200 (flat AL), 65⟩, ⟨gb, grp (.slice none 0 0) (unS CS (apX CS (fun x : NumOf G => x.1) [])), 68⟩] := by rw [hgb]; exact M5.alloc #[.slice none 0 0, .int .u64 0, .int .u64 0] 68
    have hgw : w.heap.size ≤ gb := by rw [hgb]; exact M5.below.size
    generalize W4.alloc _ = W5 at M6 ⊢
    rw [← hgb]
    clear hgb M5
    gi_wp2_with (first
      | (refine loadIn hfn rfl 33 _ rfl w.heap.size 0 rfl (fcells f) _ (M6.at 0 rfl).whole Tryd.underlying33 rfl (by rw [fcells_size]; exact sizeFd) ?_)
      | (refine loadIn hfn rfl 35 _ rfl (w.heap.size + 1) 0 rfl (acells .u64 2 t) _ (M6.at 1 rfl).whole Tryd.underlying35 rfl (by rw [acells_size]; exact sizeC) ?_)
      | (gi_at_call 30; refine (callsIn_wide.2 (soilIn_any f hf HOK.out t _)).mono ?_; rintro e W6 ⟨rfl, hb⟩; rw [HG.out]; have M7 := M6.call hb; clear M6 hb)
      | (gi_at_call 33; refine (callsIn_wide.2 (numbersIn_any G _)).mono ?_; rintro e w' ⟨rfl, rfl⟩))
    obtain ⟨bi, hbi⟩ : ∃ bi, bi = W6.heap.size := ⟨_, rfl⟩
    have M8 : Mem w (W6.alloc (Obj.cells (acells .u64 2 G) 35)) [⟨w.heap.size, fcells f, 33⟩, ⟨w.heap.size + 1, acells .u64 2 t, 35⟩, ⟨cb, acells .u64 200 (flat AL), 65⟩, ⟨gb, grp (.slice none 0 0) (unS CS (apX CS (fun x : NumOf G => x.1) [])), 68⟩, ⟨bi, acells .u64 2 G, 35⟩] := by rw [hbi]; exact M7.alloc (acells .u64 2 G) 35
    generalize W6.alloc _ = W7 at M8 ⊢
    rw [← hbi]
    clear hbi M7
    have hsz : w.heap.size ≤ W7.heap.size := M8.below.size
    have hne : ∀ (cs : Array Value), ∀ x ∈ ([⟨w.heap.size, fcells f, 33⟩, ⟨w.heap.size + 1, acells .u64 2 t, 35⟩, ⟨cb, acells .u64 200 (flat AL), 65⟩, ⟨gb, cs, 68⟩, ⟨bi, acells .u64 2 G, 35⟩] : List Ent), x.t ≠ 2 := by
      intro cs x hx
      simp only [List.mem_cons, List.mem_nil_iff, or_false] at hx
      rcases hx with rfl | rfl | rfl | rfl | rfl
      · show (33 : TypeId) ≠ 2; decide
      · show (35 : TypeId) ≠ 2; decide
      · show (65 : TypeId) ≠ 2; decide
      · show (68 : TypeId) ≠ 2; decide
      · show (35 : TypeId) ≠ 2; decide
    have HNE := Lib.hid hne
    clear hne
    refine wpIn_rangeFunc_ownF rfl (by omega) (gf := 59) (lb := #[.pointer (some ⟨bi, 0, none⟩)]) rfl trivial (enters_of Tryd.func59 (by kernel_rfl) rfl)
      (nums_stops 2 bi G W7 (M8.at 4 rfl)) (fun h k => k.trans h)
      (fun W l o o' hl ho hc _ => World.putObj_heap_other (fun e => by
        have := (M8.at 4 rfl).lt
        omega))
      (Below.refl _ _) (fun _ => rfl)
      (fun pre W => ∃ v, Mem w W [⟨w.heap.size, fcells f, 33⟩, ⟨w.heap.size + 1, acells .u64 2 t, 35⟩, ⟨cb, acells .u64 200 (flat AL), 65⟩, ⟨gb, grp v (unS CS (apX CS (fun x : NumOf G => x.1) pre)), 68⟩, ⟨bi, acells .u64 2 G, 35⟩] ∧ W.ownsRow gb 2 1 v (apX CS (fun x : NumOf G => x.1) pre).length ((apX CS (fun x : NumOf G => x.1) pre).map (Value.int .i64)))
      (fun _ _ _ => False)
      (fun s A B row hs hg hr => by
        obtain ⟨v, h1, h2⟩ := hs
        exact ⟨v, h1.grown hsz hg hr, own_grown h2 hg hr⟩)
      (fun c s A B row hs hg hr => hs)
      ⟨.slice none 0 0, M8, World.ownsRow_nil _ _ _ _⟩
      (fun x9 => { tmps := #[.agg (fcells f), .int .i64 x, .int .i64 y, .agg (acells .u64 2 t), .pointer (some ⟨w.heap.size, 0, none⟩), undef, undef, .pointer (some ⟨w.heap.size + 1, 0, none⟩), .slice none 0 0, .int .i64 0, .nilIface, .pointer (some ⟨cb, 0, none⟩), .pointer (some ⟨gb, 0, none⟩), .int .i64 (x9.1 : Int), .agg (fcells f), .int .i64 x, .int .i64 y, .nilIface, .nilIface, .bool false, undef, undef, .agg (fcells f), .int .i64 x, .int .i64 y, .agg (acells .u64 200 (flat AL)), .agg (fcells f), .agg (acells .u64 2 t), .agg (acells .u64 2 G), .func (.func 59) #[] #[.pointer (some ⟨bi, 0, none⟩)], .int .i64 (x9.1 : Int), undef, undef, undef, undef, undef, undef], defers := [] }) ?assign ?body ?done ?stop
    case assign =>
      intro l x W K hK
      gi_wp2
      exact hK
    case body =>
      rintro l pre x9 W8 ⟨v, M9, hO⟩ hlen
      have hfn' : ∀ k, (Fence.wide.inRound l).fn k := fun _ => trivial
      have hdep' : (Fence.wide.inRound l).depth.isSome = false := rfl
      have hx9 := x9.2.1
      have hR := apX_len CS (fun x : NumOf G => x.1) pre
      have hsn := apX_snoc CS (fun x : NumOf G => x.1) pre x9
      have hlen' : pre.length < 100 := hlen
      obtain ⟨R, hRR⟩ : ∃ R, apX CS (fun x : NumOf G => x.1) pre = R := ⟨_, rfl⟩
      rw [hRR] at M9 hO hR hsn
      clear hRR hlen
      have hfi := fine_iff HN.out R (x9.1 : Int)
      have hU : N100 (unS CS R) := unF_N100 HN.out R _ zero_N100
      cases hk : takB CS R (x9.1 : Int) with
      | false =>
        have hno : Hid (apX CS (fun x : NumOf G => x.1) (pre ++ [x9]) = R) := Lib.hid (by rw [hsn]; unfold takX; rw [hk]; rfl)
        have hor : (inL (fun i => R.getD i 0) R.length (x9.1 : Int) || !(fineT CS R (x9.1 : Int) R.length)) = true := by
          unfold takB at hk
          revert hk
          cases inL (fun i => R.getD i 0) R.length (x9.1 : Int) <;> cases fineT CS R (x9.1 : Int) R.length <;> simp
        have HT := Lib.hid (fun (W : World) B O => takes_no (unS CS R) (CS (x9.1 : Int)) hU (HN.out _) _ hfi R (by omega) (x9.1 : Int) hor gb gb v W B O)
        have HO := Lib.hid hO
        clear hor hfi hsn hk hO
        gi_wp2_with (first
          | (gi_at_call 35; refine (CallsIn.inRound l (callsIn_wide.2 (coverersOf_any AL x9.1 _ _ (M9.at 2 rfl)))).mono ?_; rintro e W9 ⟨rfl, hb⟩; rw [HCS.out _ hx9]; have MA := M9.call hb; have OA := owns_belowT HO.out hb)
          | (gi_at_call 34; refine (CallsIn.inRound l (callsIn_wide.2 (HT.out _ (MA.at 3 rfl) OA))).mono ?_; rintro e W10 ⟨rfl, hb2⟩; have MB := MA.call hb2; have OB := owns_belowT OA hb2))
        exact ⟨(KeepsOthers.of_below hb).trans (KeepsOthers.of_below hb2), M9.same MB 4 4 rfl rfl, v, by rw [hno.out]; exact ⟨MB, OB⟩⟩
      | true =>
        have hyes : Hid (apX CS (fun x : NumOf G => x.1) (pre ++ [x9]) = R ++ [(x9.1 : Int)]) := Lib.hid (by rw [hsn]; unfold takX; rw [hk]; rfl)
        have hand : inL (fun i => R.getD i 0) R.length (x9.1 : Int) = false ∧ fineT CS R (x9.1 : Int) R.length = true := by
          unfold takB at hk
          revert hk
          cases inL (fun i => R.getD i 0) R.length (x9.1 : Int) <;> cases fineT CS R (x9.1 : Int) R.length <;> simp
        have HT := Lib.hid (fun (W : World) hn B O => takes_yes (unS CS R) (CS (x9.1 : Int)) hU (HN.out _) (hfi.1 hand.2) R (by omega) (x9.1 : Int) hand.1 gb gb v W hn B O)
        have HO := Lib.hid hO
        have HUS := Lib.hid (unS_snoc CS R (x9.1 : Int))
        clear hand hfi hsn hk hO
        gi_wp2_with (first
          | (gi_at_call 35; refine (CallsIn.inRound l (callsIn_wide.2 (coverersOf_any AL x9.1 _ _ (M9.at 2 rfl)))).mono ?_; rintro e W9 ⟨rfl, hb⟩; rw [HCS.out _ hx9]; have MA := M9.call hb; have OA := owns_belowT HO.out hb)
          | (gi_at_call 34; refine (CallsIn.inRound l (callsIn_wide.2 (HT.out _ (Nat.le_of_lt (MA.at 3 rfl).lt) (MA.at 3 rfl) OA))).mono ?_; rintro e W10 ⟨v2, rfl, hB2, hO2, hF2⟩; have MB := MA.framed hF2 3 rfl OA hgw (HNE.out _) _ hB2))
        refine ⟨(KeepsOthers.of_below hb).trans (hF2.keeps (MA.at 3 rfl) OA), M9.same MB 4 4 rfl rfl, v2, ?_⟩
        rw [hyes.out, HUS.out]
        exact ⟨MB, hO2⟩
    case done =>
      rintro D9 xs W8 hD rfl ⟨v, M9, hO⟩ hK
      rw [HX.out] at M9 hO
      obtain ⟨p9, c9, rfl⟩ := own_out hO
      have c0 := (M9.at 3 rfl).cell (i := 0) (v := .slice p9 PL.length c9) rfl
      gi_wp2
      refine ⟨by simp, .inl ⟨_, _, rfl, run_takeDeferred hK, ?_⟩⟩
      have MA := M9.taken (o' := .deferred none) (Nat.le_trans hsz hD) hK rfl
      exact ⟨.tuple #[.slice p9 PL.length c9, .int .i64 0], by simp [results, Tryd.results13, go_sem], apP_ok HC.out HPL.out gb hgw (ownsRow_putObj hO _ hK rfl) MA.below⟩
    case stop =>
      rintro D9 c pre W8 hD _ h hK
      exact h.elim
  · exact bad 1 (by omega) (by omega) h0
  · exact bad 2 (by omega) (by omega) h0
end Go.Proofs.YtidddepdjokjcaaDoor
