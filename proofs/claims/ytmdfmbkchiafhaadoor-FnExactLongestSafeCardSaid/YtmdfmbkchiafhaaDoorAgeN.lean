/-
  Lists of structs of integers that append made: their memory is the call's own.
  slices.Clone of scarecrows.
  Scarecrows grown older: the model's l03Older, the program's allOlder.
  Scarecrows grown older: allOlder; AgeScares.
-/
import Derived.Test.YtmdfmbkchiafhaaDoorLstS
import Derived.Test.YtmdfmbkchiafhaaDoorLstC
import Derived.Test.YtmdfmbkchiafhaaDoorFearO
import Derived.Laws.AppendOwn
import Derived.Lib.SliceRun
namespace Go.Proofs.YtmdfmbkchiafhaaDoor
section
open Go Go.RowKit

/-- n structs of a slice whose block is new since lo. -/
def SO (ks : List IntKind) (t : TypeId) (lo : Nat) (w : World) (p : Option Addr) (n : Nat) (F : Nat → Nat → Int) : Prop :=
  n = 0 ∨ ∃ b cs, p = some ⟨b, 0, none⟩ ∧ lo ≤ b ∧ n * ks.length ≤ cs.size ∧ Blk w b cs t ∧ ∀ i, i < n → ∀ j, j < ks.length → cs[i * ks.length + j]? = some (sget ks F i j)
theorem SO.later {ks : List IntKind} {t : TypeId} {lo : Nat} {w w' : World} {p : Option Addr} {n : Nat} {F : Nat → Nat → Int} (h : SO ks t lo w p n F) (hb : Below w.heap.size w w') : SO ks t lo w' p n F :=
  h.imp id fun ⟨b, cs, e, h1, h2, h3, h4⟩ => ⟨b, cs, e, h1, h2, h3.later hb, h4⟩
theorem SO.weak {ks : List IntKind} {t : TypeId} {lo lo' : Nat} {w : World} {p : Option Addr} {n : Nat} {F : Nat → Nat → Int} (h : SO ks t lo w p n F) (hl : lo' ≤ lo) : SO ks t lo' w p n F :=
  h.imp id fun ⟨b, cs, e, h1, h2, h3, h4⟩ => ⟨b, cs, e, Nat.le_trans hl h1, h2, h3, h4⟩
theorem SO.inS {ks : List IntKind} {t : TypeId} {lo : Nat} {w : World} {p : Option Addr} {n : Nat} {F : Nat → Nat → Int} (h : SO ks t lo w p n F) : SV ks lo w.heap.size w p n F :=
  h.imp id fun ⟨b, cs, e, h1, _, h3, h4⟩ => ⟨b, 0, e, h1, h3.lt, fun i hi j v hj => by
    have hjs : j < ks.length := by
      have := (List.getElem?_eq_some_iff.1 hj).1
      simpa [srow_size] using this
    rw [Array.getElem?_toList, srow_get _ _ _ _ hjs] at hj
    rw [← Option.some.inj hj, Nat.zero_add]
    exact h3.cell (h4 i hi j hjs)⟩
theorem SO.sw {ks : List IntKind} {t : TypeId} {lo : Nat} {w : World} {p : Option Addr} {n : Nat} {F : Nat → Nat → Int} (h : SO ks t lo w p n F) : SW ks t lo w.heap.size w p n :=
  h.imp id fun ⟨b, cs, e, h1, h2, h3, _⟩ => ⟨b, 0, cs, e, h1, h3.lt, by rw [Nat.zero_add]; exact h2, h3⟩
theorem Sown {ks : List IntKind} {t : TypeId} {lo : Nat} {w : World} {v : Value} {n : Nat} {F : Nat → Nat → Int} (h : w.ownsRow lo t ks.length v n (scells ks n F).toList) : ∃ p c, v = .slice p n c ∧ SO ks t lo w p n F := by
  obtain ⟨_, h | ⟨b, cap, cs, rfl, hb, hB, h1, h2, h3, h4⟩⟩ := h
  · obtain ⟨rfl, h0⟩ := h
    exact ⟨none, 0, by rw [h0], .inl h0⟩
  · refine ⟨_, cap, rfl, .inr ⟨b, cs, rfl, hb, by rw [h3]; exact Nat.mul_le_mul_right _ h1, hB, fun i hi j hj => ?_⟩⟩
    have hlt := place_lt hi hj
    have h5 : (cs.toList.take (n * ks.length))[i * ks.length + j]? = (scells ks n F).toList[i * ks.length + j]? := by rw [h4]
    rw [List.getElem?_take, if_pos hlt, Array.getElem?_toList, Array.getElem?_toList, scells_get ks n F i j hi hj] at h5
    exact h5
/-- What append leaves is nil or not. -/
theorem Sown' {ks : List IntKind} {t : TypeId} {lo : Nat} {w : World} {v : Value} {n : Nat} {F : Nat → Nat → Int} (h : w.ownsRow lo t ks.length v n (scells ks n F).toList) (hv : v ≠ .slice none 0 0) : ∃ b c, v = .slice (some ⟨b, 0, none⟩) n c ∧ SO ks t lo w (some ⟨b, 0, none⟩) n F := by
  obtain ⟨p, c, e, hS⟩ := Sown h
  obtain ⟨_, h | ⟨b, cap, cs, e2, _⟩⟩ := h
  · exact absurd h.1 hv
  · rw [e] at e2
    cases e2
    exact ⟨b, _, e, hS⟩
/-- The cells of a list that came in, as append reads them. -/
theorem Snews {ks : List IntKind} {w : World} {b o n : Nat} {F : Nat → Nat → Int} (hk : 0 < ks.length) (I : InS w b o n ks F) : ∀ j u, (scells ks n F).toList[j]? = some u → w.cell? ((⟨b, o, none⟩ : Addr).add j) = some u := by
  intro j u hj
  have hjn : j < n * ks.length := by
    have := (List.getElem?_eq_some_iff.1 hj).1
    simpa [scells_size] using this
  have hi : j / ks.length < n := Nat.div_lt_of_lt_mul (by rw [Nat.mul_comm]; exact hjn)
  have hq : j % ks.length < ks.length := Nat.mod_lt _ hk
  have e : j / ks.length * ks.length + j % ks.length = j := by rw [Nat.mul_comm]; exact Nat.div_add_mod _ _
  have h1 := scells_get ks n F _ _ hi hq
  rw [e] at h1
  rw [Array.getElem?_toList, h1] at hj
  have h2 := I _ hi (j % ks.length) _ (by rw [Array.getElem?_toList]; exact srow_get ks F _ _ hq)
  rw [Nat.add_assoc, e] at h2
  rw [Addr.add_lit, h2]; exact hj
theorem Sone (ks : List IntKind) (n : Nat) (F : Nat → Nat → Int) : ∀ u ∈ (scells ks n F).toList, u.oneCell' = true := by
  intro u hu
  have h := scells_one ks n F
  rw [Array.all_eq_true_iff_forall_mem] at h
  exact h u (by simpa using hu)
theorem Slen (ks : List IntKind) (n : Nat) (F : Nat → Nat → Int) : (scells ks n F).toList.length = n * ks.length := by simp [scells_size]
end
section
open Go Go.RowKit

theorem Cinfo : (Tryd.prog.info? 72).map (fun i => (i.zero, i.size, i.bytes)) = some (some (.agg #[.int .i16 0, .int .i16 0, .int .i8 0]), 3, 6) := by kernel_rfl
set_option maxHeartbeats 2000000 in
set_option maxRecDepth 100000 in
theorem Cclone_any (n : Nat) (hn : n ≤ 2 ^ 40) (F : Nat → Nat → Int) (b c : Nat) (w : World) (I : InS w b 0 n ksScarecrow F) :
    Calls Tryd.prog 53 #[.slice (some ⟨b, 0, none⟩) n c] w fun e w' => ∃ b' c', e = .returned (.slice (some ⟨b', 0, none⟩) n c') ∧ SO ksScarecrow 72 w.heap.size w' (some ⟨b', 0, none⟩) n F ∧ Below w.heap.size w w' := by
  have HI := Lib.hid I
  clear I
  have q22 : ∀ (w : World) (a : Option Addr) (n c n' c' : Nat), (binOp .eql 36 (.slice a n c) (.slice none n' c')).run Tryd.prog w = .ok (.bool a.isNone) w := fun w a n c n' c' => Lib.run_eql_slice_nil w _ _ a n c n' c' Tryd.underlying36
  obtain ⟨i0, hi, hz0, hz1, hz2⟩ := info_parts Cinfo
  go_enter Tryd.func53, Tryd.ntmps53
  go_wp2_with (at_builtin; refine wpList_append_own _ rfl _ _ 36 rfl w.heap.size 72 i0 (.agg #[.int .i16 0, .int .i16 0, .int .i8 0]) 3 6 Tryd.underlying36 hi hz0 hz1 hz2 rfl (by decide) _ _ _ rfl (World.ownsRow_made w #[] 0 (Nat.le_refl _) (Nat.zero_le _) (by simp)) ⟨b, 0, none⟩ n c (scells ksScarecrow n F).toList rfl ?qc1 ?qc2 ?qc3 ?qc4 ?qc5 ?qc6 ?_)
  case qc1 => exact Slen _ _ _
  case qc2 =>
    intro j u hj
    exact Lib.cell?_alloc_some _ (Snews (by decide) HI.out j u hj)
  case qc3 => exact Sone _ _ _
  case qc4 => rw [Nat.zero_add]; unfold maxLen; omega
  case qc5 => rw [Nat.zero_add]; omega
  case qc6 => simp
  intro v' w1 hown hgrow hnil
  go_wp2
  go_ret
  (try simp only [Nat.zero_add, List.nil_append] at hown)
  have hnn : v' ≠ .slice none 0 0 := by first | exact hnil | (intro e; have := hnil.1 e; simp at this)
  obtain ⟨b', c', rfl, h⟩ := Sown' (ks := ksScarecrow) hown hnn
  exact ⟨b', c', rfl, h, ((Below.refl _ w).alloc (Nat.le_refl _) _).grown hgrow (by simp) (by intro k hk; simp [Value.ownBlock] at hk; omega)⟩
end
section
open Go Go.RowKit

def ageV (x d : Int) : Int := if x + d ≤ 30 then x + d else 30
theorem ageV_in {x d : Int} (hx : 0 ≤ x ∧ x ≤ 30) (hd : 0 ≤ d ∧ d ≤ 1000) : 0 ≤ ageV x d ∧ ageV x d ≤ 30 := by unfold ageV; split <;> omega
theorem ageV_min (x d : Int) : min 30 (x + d) = ageV x d := by unfold ageV; split <;> omega
/-- The scarecrows, older. -/
def aged (F : Nat → Nat → Int) (d : Int) : Nat → Nat → Int := fun i j => if j = 2 then ageV (F i 2) d else F i j
def agedTo (F : Nat → Nat → Int) (d : Int) (k : Nat) : Nat → Nat → Int := fun i j => if i < k then aged F d i j else F i j
theorem agedTo_same {F : Nat → Nat → Int} {d : Int} {k i j : Nat} (h : i ≠ k ∨ j ≠ 2) : agedTo F d (k + 1) i j = agedTo F d k i j := by
  unfold agedTo
  by_cases h1 : i < k
  · rw [if_pos (by omega), if_pos h1]
  · by_cases h2 : i = k
    · rw [if_pos (by omega), if_neg h1]; unfold aged; rw [if_neg (by omega)]
    · rw [if_neg (by omega), if_neg h1]
theorem agedTo_at {F : Nat → Nat → Int} {d : Int} {k : Nat} : agedTo F d (k + 1) k 2 = ageV (F k 2) d := by unfold agedTo aged; rw [if_pos (by omega), if_pos rfl]
theorem agedTo_old {F : Nat → Nat → Int} {d : Int} {k j : Nat} : agedTo F d k k j = F k j := by unfold agedTo; rw [if_neg (by omega)]
theorem agedTo_all {F : Nat → Nat → Int} {d : Int} {n i j : Nat} (h : i < n) : agedTo F d n i j = aged F d i j := by unfold agedTo; rw [if_pos h]
theorem Mem.one {w w' : World} {b : Nat} {cs : Array Value} {t : TypeId} (hb : Below w.heap.size w w') (hlo : w.heap.size ≤ b) (B : Blk w' b cs t) : Mem w w' [⟨b, cs, t⟩] := by
  refine ⟨hb, ?_, ?_⟩
  · intro i e h
    cases i with
    | zero => cases h; exact ⟨hlo, B⟩
    | succ i => cases h
  · intro i j e e' h h' hne
    cases i with
    | zero =>
      cases j with
      | zero => exact absurd rfl hne
      | succ j => cases h'
    | succ i => cases h
theorem Mem.init2 {w0 w : World} {e1 e2 : Ent} (H : Mem w0 w [e1, e2]) : Mem w0 w [e1] := Mem.one H.below (H.blk 0 e1 rfl).1 (H.blk 0 e1 rfl).2
/-- What the round's rows hold. -/
def AgeRow (F : Nat → Nat → Int) (d : Int) (n k : Nat) (cs : Array Value) : Prop := n * 3 ≤ cs.size ∧ ∀ i, i < n → ∀ j, j < 3 → cs[i * 3 + j]? = some (sget ksScarecrow (agedTo F d k) i j)
theorem AgeRow.get {F : Nat → Nat → Int} {d : Int} {n k : Nat} {cs : Array Value} (h : AgeRow F d n k cs) (hk : k < n) : cs[k * 3]? = some (.int .i16 (F k 0)) ∧ cs[k * 3 + 1]? = some (.int .i16 (F k 1)) ∧ cs[k * 3 + 2]? = some (.int .i8 (F k 2)) := by
  have e : ∀ j, sget ksScarecrow (agedTo F d k) k j = .int (ksScarecrow.getD j .i64) (F k j) := fun j => by unfold sget; rw [agedTo_old]
  exact ⟨by have h1 := h.2 k hk 0 (by decide); rw [e] at h1; exact h1, by have h1 := h.2 k hk 1 (by decide); rw [e] at h1; exact h1, by have h1 := h.2 k hk 2 (by decide); rw [e] at h1; exact h1⟩
theorem AgeRow.step {F : Nat → Nat → Int} {d : Int} {n k : Nat} {cs : Array Value} (h : AgeRow F d n k cs) (hk : k < n) {v : Int} (hv : ageV (F k 2) d = v) : AgeRow F d n (k + 1) (cs.setIfInBounds (k * 3 + 2) (.int .i8 v)) := by
  refine ⟨by rw [Array.size_setIfInBounds]; exact h.1, fun i hi j hj => ?_⟩
  rw [Array.getElem?_setIfInBounds]
  by_cases e : k * 3 + 2 = i * 3 + j
  · obtain ⟨rfl, rfl⟩ : i = k ∧ j = 2 := by omega
    have := h.1
    rw [if_pos rfl, if_pos (by omega)]
    unfold sget
    rw [agedTo_at, hv]; rfl
  · rw [if_neg e, h.2 i hi j hj]
    unfold sget
    rw [agedTo_same (by omega)]
theorem AgeRow.same {F : Nat → Nat → Int} {d : Int} {n k p : Nat} {cs : Array Value} {u : Value} (_h : AgeRow F d n k cs) (hu : cs[p]? = some u) : cs.setIfInBounds p u = cs := by
  apply Array.ext_getElem?
  intro q
  rw [Array.getElem?_setIfInBounds]
  by_cases e : p = q
  · subst e
    rw [if_pos rfl, if_pos (Array.getElem?_eq_some_iff.1 hu).1, hu]
  · rw [if_neg e]
theorem AgeRow.start {F : Nat → Nat → Int} {d : Int} {n : Nat} {cs : Array Value} (h1 : n * ksScarecrow.length ≤ cs.size) (h2 : ∀ i, i < n → ∀ j, j < ksScarecrow.length → cs[i * ksScarecrow.length + j]? = some (sget ksScarecrow F i j)) : AgeRow F d n 0 cs := by
  refine ⟨h1, fun i hi j hj => ?_⟩
  have e : sget ksScarecrow (agedTo F d 0) i j = sget ksScarecrow F i j := by unfold sget agedTo; rw [if_neg (by omega)]
  rw [e]; exact h2 i hi j hj
theorem AgeRow.so {F : Nat → Nat → Int} {d : Int} {n : Nat} {cs : Array Value} (h : AgeRow F d n n cs) {lo b : Nat} {w : World} {t : TypeId} (hlo : lo ≤ b) (B : Blk w b cs t) : SO ksScarecrow t lo w (some ⟨b, 0, none⟩) n (aged F d) :=
  .inr ⟨b, cs, rfl, hlo, h.1, B, fun i hi j hj => by
    have h1 := h.2 i hi j hj
    have e : sget ksScarecrow (agedTo F d n) i j = sget ksScarecrow (aged F d) i j := by unfold sget; rw [agedTo_all hi]
    rw [e] at h1; exact h1⟩
theorem l00MinA (a b : Int) (w : World) : Calls Tryd.prog 39 #[.int .i64 a, .int .i64 b] w fun e w' => e = .returned (.int .i64 (min a b)) ∧ w = w' := by
  by_cases h : a < b
  · rw [show min a b = a by omega]
    go_enter Tryd.func39, Tryd.ntmps39
    go_wp2_with fail
    go_ret
    exact ⟨rfl, rfl⟩
  · rw [show min a b = b by omega]
    have h2 : b ≤ a := by omega
    go_enter Tryd.func39, Tryd.ntmps39
    go_wp2_with fail
    go_ret
    exact ⟨rfl, rfl⟩
theorem shape_ageA {a : Nat → Int} (h : shapeOk a = true) : 0 ≤ a 2 ∧ a 2 ≤ 30 := by
  unfold shapeOk at h; simp only [Bool.and_eq_true] at h; exact inB_iff.1 h.2
set_option maxRecDepth 100000 in
set_option maxHeartbeats 4000000 in
theorem l03Older_any (n : Nat) (hn : n ≤ 2 ^ 40) (F : Nat → Nat → Int) (hS : ∀ i, i < n → shapeOk (F i) = true) (d : Int) (hd : 0 ≤ d ∧ d ≤ 1000) (b c : Nat) (w : World) (I : InS w b 0 n ksScarecrow F) :
    Calls Tryd.prog 76 #[.slice (some ⟨b, 0, none⟩) n c, .int .i64 d] w fun e w' => ∃ b' c', e = .returned (.slice (some ⟨b', 0, none⟩) n c') ∧ SO ksScarecrow 72 w.heap.size w' (some ⟨b', 0, none⟩) n (aged F d) ∧ Below w.heap.size w w' := by
  have HI := Lib.hid I
  have HS := Lib.hid hS
  clear I hS
  obtain ⟨i0, hi, hz0, hz1, hz2⟩ := info_parts Cinfo
  go_enter Tryd.func76, Tryd.ntmps76
  go_wp2_with (at_builtin; refine wpList_append_own _ rfl _ _ 36 rfl w.heap.size 72 i0 (.agg #[.int .i16 0, .int .i16 0, .int .i8 0]) 3 6 Tryd.underlying36 hi hz0 hz1 hz2 rfl (by decide) _ _ _ rfl (World.ownsRow_made w #[] 0 (Nat.le_refl _) (Nat.zero_le _) (by simp)) ⟨b, 0, none⟩ n c (scells ksScarecrow n F).toList rfl ?qc1 ?qc2 ?qc3 ?qc4 ?qc5 ?qc6 ?_)
  case qc1 => exact Slen _ _ _
  case qc2 =>
    intro j u hj
    exact Lib.cell?_alloc_some _ (Snews (by decide) HI.out j u hj)
  case qc3 => exact Sone _ _ _
  case qc4 => rw [Nat.zero_add]; unfold maxLen; omega
  case qc5 => rw [Nat.zero_add]; omega
  case qc6 => simp
  intro v' w1 hown hgrow hnil
  (try simp only [Nat.zero_add, List.nil_append] at hown)
  have hb : Below w.heap.size w w1 := ((Below.refl _ w).alloc (Nat.le_refl _) _).grown hgrow (by simp) (by intro k hk; simp [Value.ownBlock] at hk; omega)
  have hnn : v' ≠ .slice none 0 0 := by first | exact hnil | (intro e; have := hnil.1 e; simp at this)
  obtain ⟨pb, c', rfl, h⟩ := Sown' (ks := ksScarecrow) hown hnn
  clear hown hgrow hnil hnn hi hz0 hz1 hz2
  rcases h with rfl | ⟨ob, cs, hp, hlo, hsz, B, hv⟩
  · go_wp2_with fail
    refine wp_loop_rounds 1 ?_
    rw [rounds_succ]
    go_wp2_with fail
    go_ret
    exact ⟨pb, c', rfl, .inl rfl, hb⟩
  · obtain rfl : ob = pb := by cases hp; rfl
    clear hp
    have M0 : Hid (∃ cs', Mem w w1 [⟨ob, cs', 72⟩] ∧ AgeRow F d n 0 cs') := Lib.hid ⟨cs, Mem.one hb hlo B, AgeRow.start hsz hv⟩
    clear hb hsz B hv
    obtain ⟨hd1, hd2⟩ := hd
    go_wp2_with fail
    go_loopw [6] (fun i wr => ∃ k : Nat, k ≤ n ∧ i = .int .i64 k ∧ Hid (∃ cs', Mem w wr [⟨ob, cs', 72⟩] ∧ AgeRow F d n k cs')) (fun i _ => n - (intOf i).toNat)
    case atStart => exact ⟨0, by omega, rfl, M0⟩
    case round =>
      clear M0
      obtain ⟨k, hk, rfl, hM⟩ := hrel
      by_cases hlt : k < n
      · obtain ⟨cs', M, hR⟩ := hM.out
        have HR := Lib.hid hR
        obtain ⟨x1, x2⟩ := shape_ageA (HS.out k hlt)
        have hx := hR.get hlt
        obtain ⟨v1, v2⟩ := ageV_in ⟨x1, x2⟩ ⟨hd1, hd2⟩
        have hmin := ageV_min (F k 2) d
        obtain ⟨v, hv⟩ : ∃ v, ageV (F k 2) d = v := ⟨_, rfl⟩
        have HV := Lib.hid hv
        rw [hv] at v1 v2 hmin
        have HMIN := Lib.hid hmin
        have h8 : IntKind.i8.wrap v = v := IntWalk.i8_in _ (by omega)
        have c0 := (M.at 0 rfl).cell hx.2.2
        have e0 := (M.at 0 rfl).free (k * 3 + 2)
        obtain ⟨x, hxx⟩ : ∃ x, F k 2 = x := ⟨_, rfl⟩
        rw [hxx] at c0 x1 x2 HMIN
        clear hv hmin hR hx hxx
        go_wp2_with (go_at_call 39; refine (l00MinA 30 (x + d) _).mono ?_; rintro e w9 ⟨rfl, rfl⟩; rw [HMIN.out])
        have M2 := M.set 0 (k * 3 + 2) (.int .i8 v) rfl _ rfl
        go_roundw
        case rel => exact ⟨k + 1, by omega, by go_num, Lib.hid ⟨_, M2, HR.out.step hlt HV.out⟩⟩
        case measure => simp [intOf]; omega
      · obtain rfl : k = n := by omega
        obtain ⟨cs', M, hR⟩ := hM.out
        go_wp2_with fail
        go_ret
        exact ⟨_, c', rfl, hR.so hlo (M.at 0 rfl), M.below⟩
set_option maxRecDepth 100000 in
set_option maxHeartbeats 4000000 in
theorem older_any (a : Nat → Int) (hS : shapeOk a = true) (d : Int) (hd : 0 ≤ d ∧ d ≤ 1000) (w : World) :
    Calls Tryd.prog 114 #[vScarecrow a, .int .i64 d] w fun e w' => e = .returned (.agg #[.int .i16 (a 0), .int .i16 (a 1), .int .i8 (ageV (a 2) d)]) ∧ Below w.heap.size w w' := by
  obtain ⟨x1, x2⟩ := shape_ageA hS
  obtain ⟨v1, v2⟩ := ageV_in ⟨x1, x2⟩ hd
  obtain ⟨hd1, hd2⟩ := hd
  obtain ⟨v, hv⟩ : ∃ v, ageV (a 2) d = v := ⟨_, rfl⟩
  rw [hv] at v1 v2 ⊢
  obtain ⟨y0, hy0⟩ : ∃ x, a 0 = x := ⟨_, rfl⟩
  obtain ⟨y1, hy1⟩ : ∃ x, a 1 = x := ⟨_, rfl⟩
  obtain ⟨x, hx⟩ : ∃ x, a 2 = x := ⟨_, rfl⟩
  unfold vScarecrow
  rw [hy0, hy1, hx]
  rw [hx] at hv x1 x2
  clear hy0 hy1 hx hS
  have hmn : ∀ (ts : Array TypeId) (t : TypeId) (W : World), (Builtin.min_ ts t #[.int .i64 (x + d), .int .i64 30]).run Tryd.prog W = .ok (.int .i64 v) W := fun ts t W => by
    have e : (if 30 < x + d then (30 : Int) else x + d) = v := by rw [← hv]; unfold ageV; split <;> split <;> omega
    simp [Builtin.min_, Builtin.min2, e]
  have h8 : IntKind.i8.wrap v = v := IntWalk.i8_in _ (by omega)
  clear hv
  go_enter Tryd.func114, Tryd.ntmps114
  go_upto_region 1 with (fail)
  obtain ⟨W, hW, M⟩ := open2 w #[.int .i16 y0, .int .i16 y1, .int .i8 x] 72 #[.int .i16 0, .int .i16 0, .int .i8 0] 72
  rw [hW]; clear hW
  have c2 := (M.at 0 rfl).cell (i := 2) (v := .int .i8 x) rfl
  have e2 := (M.at 0 rfl).free 2
  go_upto_region 2 with (fail)
  have M2 := M.set 0 2 (.int .i8 v) rfl #[.int .i16 y0, .int .i16 y1, .int .i8 v] rfl
  generalize World.setCell _ _ _ = W2 at M2 ⊢
  clear c2 e2 M hmn
  have a0 := (M2.at 0 rfl).cell (i := 0) (v := .int .i16 y0) rfl
  have a1 := (M2.at 0 rfl).cell (i := 1) (v := .int .i16 y1) rfl
  have a2 := (M2.at 0 rfl).cell (i := 2) (v := .int .i8 v) rfl
  have b0 := (M2.at 1 rfl).cell (i := 0) (v := .int .i16 0) rfl
  have b1 := (M2.at 1 rfl).cell (i := 1) (v := .int .i16 0) rfl
  have b2 := (M2.at 1 rfl).cell (i := 2) (v := .int .i8 0) rfl
  have f0 := (M2.at 1 rfl).free 0
  have f1 := (M2.at 1 rfl).free 1
  have f2 := (M2.at 1 rfl).free 2
  go_wp2_with fail
  have M3 := M2.cells 1 0 [.int .i16 y0, .int .i16 y1, .int .i8 v] rfl _ ((((M2.at 1 rfl).set 0 _).set 1 _).set 2 _)
  exact bodyPost_ret (results_cell_row rfl _ _ (w.heap.size + 1) 72 _ _ _ rfl (M3.at 1 rfl) Tryd.underlying72 rfl (by kernel_rfl)) rfl ⟨rfl, M3.below⟩
end
section
open Go Go.RowKit

set_option maxRecDepth 100000 in
set_option maxHeartbeats 8000000 in
theorem allOlder_any (n : Nat) (hn : n ≤ 2 ^ 40) (F : Nat → Nat → Int) (hS : ∀ i, i < n → shapeOk (F i) = true) (d : Int) (hd : 0 ≤ d ∧ d ≤ 1000) (b c : Nat) (w : World) (I : InS w b 0 n ksScarecrow F) :
    Calls Tryd.prog 87 #[.slice (some ⟨b, 0, none⟩) n c, .int .i64 d] w fun e w' => ∃ b' c', e = .returned (.slice (some ⟨b', 0, none⟩) n c') ∧ SO ksScarecrow 72 w.heap.size w' (some ⟨b', 0, none⟩) n (aged F d) ∧ Below w.heap.size w w' := by
  have HI := Lib.hid I
  have HS := Lib.hid hS
  have HD := Lib.hid hd
  clear I hS hd
  go_enter Tryd.func87, Tryd.ntmps87
  go_upto_region 2 with (go_at_call 53; refine (Cclone_any n hn F b c _ HI.out).mono ?_; rintro e w1 ⟨pb, c', rfl, h, hb⟩)
  rcases h with rfl | ⟨ob, cs, hp, hlo, hsz, B, hv⟩
  · go_wp2_with fail
    refine wp_loop_rounds 1 ?_
    rw [rounds_succ]
    go_wp2_with fail
    go_ret
    exact ⟨pb, c', rfl, .inl rfl, hb⟩
  · obtain rfl : ob = pb := by cases hp; rfl
    clear hp
    have M0 : Hid (∃ cs', Mem w w1 [⟨ob, cs', 72⟩] ∧ AgeRow F d n 0 cs') := Lib.hid ⟨cs, Mem.one hb hlo B, AgeRow.start hsz hv⟩
    clear hb hsz B hv
    go_wp2_with fail
    go_loopw [12] (fun i wr => ∃ k : Nat, k ≤ n ∧ i = .int .i64 k ∧ Hid (∃ cs', Mem w wr [⟨ob, cs', 72⟩] ∧ AgeRow F d n k cs')) (fun i _ => n - (intOf i).toNat)
    case atStart => exact ⟨0, by omega, rfl, M0⟩
    case round =>
      clear M0
      obtain ⟨k, hk, rfl, hM⟩ := hrel
      by_cases hlt : k < n
      · obtain ⟨cs', M, hR⟩ := hM.out
        have HR := Lib.hid hR
        have hx := hR.get hlt
        have hsh := HS.out k hlt
        obtain ⟨v, hv⟩ : ∃ v, ageV (F k 2) d = v := ⟨_, rfl⟩
        have HV := Lib.hid hv
        obtain ⟨q1, q2, q3⟩ := hx
        have r0 := Lib.hid (hR.same q1)
        have HQ := Lib.hid (And.intro q1 (And.intro q2 q3))
        have c0 := (M.at 0 rfl).cell q1
        have c1 := (M.at 0 rfl).cell q2
        have c2 := (M.at 0 rfl).cell q3
        have HSH := Lib.hid hsh
        clear hR hv hsh q1 q2 q3
        go_upto_region 5 with (fail)
        have M1 := M.alloc #[.int .i16 (F k 0), .int .i16 (F k 1), .int .i8 (F k 2)] 72
        obtain ⟨fb, hfb⟩ : ∃ fb, fb = wr.heap.size := ⟨_, rfl⟩
        rw [← hfb] at M1 ⊢
        generalize World.alloc _ _ = W4 at M1 ⊢
        clear c0 c1 c2 M hfb
        go_wp2_with (first
          | (refine wpList_load_part rfl 72 _ rfl fb 0 rfl #[.int .i16 (F k 0), .int .i16 (F k 1), .int .i8 (F k 2)] _ (M1.at 1 rfl).whole Tryd.underlying72 rfl (by kernel_rfl) ?_)
          | (go_at_call 114; refine (older_any (F k) HSH.out d HD.out _).mono ?_; rintro e W5 ⟨rfl, hb5⟩; rw [HV.out]; have M2 := M1.call hb5; have c0 := (M2.at 0 rfl).cell HQ.out.1; have c1 := (M2.at 0 rfl).cell HQ.out.2.1; have c2 := (M2.at 0 rfl).cell HQ.out.2.2; have e0 := (M2.at 0 rfl).free (k * 3); have e1 := (M2.at 0 rfl).free (k * 3 + 1); have e2 := (M2.at 0 rfl).free (k * 3 + 2); clear M1 hb5))
        have M3 := M2.cells 0 (k * 3) [.int .i16 (F k 0), .int .i16 (F k 1), .int .i8 v] rfl _ ((((M2.at 0 rfl).set (k * 3) _).set (k * 3 + 1) _).set (k * 3 + 2) _)
        go_roundw
        case rel =>
          refine ⟨k + 1, by omega, by go_num, Lib.hid ⟨_, M3.init2, ?_⟩⟩
          rw [r0.out, HR.out.same HQ.out.2.1]
          exact HR.out.step hlt HV.out
        case measure => simp [intOf]; omega
      · obtain rfl : k = n := by omega
        obtain ⟨cs', M, hR⟩ := hM.out
        go_wp2_with fail
        go_ret
        exact ⟨_, c', rfl, hR.so hlo (M.at 0 rfl), M.below⟩

/-- How many scarecrows come out. -/
def ageN (f : Fd) (n : Nat) (F : Nat → Nat → Int) (d : Int) : Nat := if askCode f n F (inB d 0 1000) = 0 then n else 0
theorem ageN_le (f : Fd) (n : Nat) (F : Nat → Nat → Int) (d : Int) (hn : n ≤ 2 ^ 40) : ageN f n F d ≤ 2 ^ 40 := by unfold ageN; split <;> omega
end
end Go.Proofs.YtmdfmbkchiafhaaDoor
