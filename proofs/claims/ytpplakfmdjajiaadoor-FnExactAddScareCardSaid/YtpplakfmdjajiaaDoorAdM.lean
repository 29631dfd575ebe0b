/-
  Drawn regions: operations that leave memory of their own (a slice made, an append that grows).
  An operation of a region that drew its order whose value is told by what it reads: a move, an extract of an answer that is known only when it comes.
  A cell for a scarecrow: the model's l03Taken, the program's checkPlace, checkFree, newScare.
  The model's test of a power.
  AddScare: codes, the list with one more, the program's.
  AddScare: the model's.
-/
import Derived.Test.YtpplakfmdjajiaaDoorRegM
import Derived.Test.YtpplakfmdjajiaaDoorNumL
import Derived.Test.YtpplakfmdjajiaaDoorFearO
import Derived.Test.YtpplakfmdjajiaaDoorAgeN
import Derived.ArgAppend
namespace Go.Proofs.YtpplakfmdjajiaaDoor
section
open Go Go.RowKit
section
variable {P : Program} {ops : Array Oper} {C : World → Prop} {l : List OpD} {Q : Act → Left → Prop} {o : Oper} {rest : List Oper} {k : Nat} {a : Act} {g : Left}
theorem rel_runP (p : Value → Nat → Nat → World → Prop) (hl : l[k]? = some (dP p)) (hw : Region.wanted o (yielded ops a.tmps) = true)
    (hr : ∀ w, C w → ∃ v w', (execOp a.eval o).run P w = .ok (.value v) w' ∧ Below w.heap.size w w' ∧ ∀ w'', Below w'.heap.size w' w'' → p v w.heap.size w'.heap.size w'')
    (h2 : ∀ v lo hi, lo ≤ hi → (∃ w, C w ∧ p v lo hi w) → wpRel P ops C (DL l) Q rest (k + 1) (a.put o.dst v) (g.upd k (lo, hi, dP p (readBy o a) v lo hi))) : wpRel P ops C (DL l) Q (o :: rest) k a g :=
  rel_step hw (fun w hw' => by
    obtain ⟨v, w', hr', hb, hp⟩ := hr w hw'
    rw [hr']
    exact ⟨hb, by rw [DL_at hl]; exact ⟨hp w' (Below.refl _ _), hp⟩⟩) (fun v lo hi hle ⟨w, hw', h⟩ => by
    have e : DL l k (readBy o a) v lo hi = dP p (readBy o a) v lo hi := by funext w; exact DL_at hl _ _ _ _ _
    rw [e]
    rw [DL_at hl] at h
    exact h2 v lo hi hle ⟨w, hw', h.1⟩)
/-- An append to an empty slice with no capacity. -/
theorem rel_append_new (s x : Operand) (t : TypeId) (hop : o.op = Op.call { callee := Callee.builtin Builtin.append, args := #[s, x], argTypes := #[t, t] })
    (e : TypeId) (i : TypeInfo) (z : Value) (size bytes : Nat) (h1 : P.underlying t = some (.slice e)) (h2 : P.info? e = some i) (h3 : i.zero = some z) (h4 : i.size = size) (h5 : i.bytes = bytes) (h6 : z.cells.size = size) (h7 : 0 < size)
    (b : Addr) (hs : a.eval s = .slice (some b) 0 0) (ad : Addr) (m c : Nat) (news : List Value) (hx : a.eval x = .slice (some ad) m c) (hn : news.length = m * size) (hc : ∀ w, C w → ∀ j u, news[j]? = some u → w.cell? (ad.add j) = some u)
    (hm : 0 < m) (b1 : m ≤ maxLen) (b2 : m * bytes ≤ 140737488355328)
    (hl : l[k]? = some (dP (fun v lo _ w => w.ownsRow lo e size v m news))) (hw : Region.wanted o (yielded ops a.tmps) = true)
    (hk : ∀ v lo hi, lo ≤ hi → (∃ w, C w ∧ w.ownsRow lo e size v m news) → wpRel P ops C (DL l) Q rest (k + 1) (a.put o.dst v) (g.upd k (lo, hi, dP (fun v lo _ w => w.ownsRow lo e size v m news) (readBy o a) v lo hi))) : wpRel P ops C (DL l) Q (o :: rest) k a g := by
  refine rel_runP _ hl hw (fun w hw' => ?_) hk
  obtain ⟨v', w', hrun, r1, r2⟩ := run_append_arg_grows (P := P) w t o.type e i z size bytes h1 h2 h3 h4 h5 h6 h7 b 0 0 [] (by simp) (fun j u hj => by simp at hj) ad m c news hn (hc w hw') (by omega) (by rw [Nat.zero_add]; exact b1) (by rw [Nat.zero_add]; exact b2)
  rw [Nat.zero_add, List.nil_append] at r1
  refine ⟨v', w', ?_, (Below.refl w.heap.size w).grown r2 (Nat.le_refl _) (fun k e => by cases e), fun w'' hb => ?_⟩
  · unfold execOp
    simp [hop, resolve, invoke, builtin, hs, hx, hrun, Result.andThen]
  · exact r1.kept (row := none) ⟨hb.os, hb.tape, hb.output, hb.size, fun k hk _ => hb.block k hk⟩ (by cases h : v'.ownBlock with
      | none => exact .inl rfl
      | some q => exact .inr (by simp))
end
end
section
open Go Go.RowKit
/-- It yields what this makes of the first value that it reads. -/
def dR (F : Value → Value) : OpD := fun vs v _ _ _ => v = F (vs.getD 0 undef)
theorem stay_R {F : Value → Value} : StayD (dR F) := fun _ _ _ _ _ _ h _ _ => h
/-- A component of a tuple. -/
def tupAt (i : Nat) : Value → Value
  | .tuple xs => xs.getD i undef
  | _ => undef
section
variable {P : Program} {ops : Array Oper} {C : World → Prop} {l : List OpD} {Q : Act → Left → Prop} {o : Oper} {rest : List Oper} {k : Nat} {a : Act} {g : Left}
theorem rel_read (F : Value → Value) (v0 : Value) (hl : l[k]? = some (dR F)) (hF : v0 = F ((readBy o a).getD 0 undef)) (hw : Region.wanted o (yielded ops a.tmps) = true) (h1 : ∀ w, C w → (execOp a.eval o).run P w = .ok (.value v0) w)
    (h2 : ∀ x, wpRel P ops C (DL l) Q rest (k + 1) (a.put o.dst v0) (g.upd k x)) : wpRel P ops C (DL l) Q (o :: rest) k a g :=
  rel_step hw (goes_value v0 h1 (fun w _ => by rw [DL_at hl]; exact hF)) (fun v lo hi _ ⟨w, _, h⟩ => by
    rw [DL_at hl] at h
    have h' : v = F ((readBy o a).getD 0 undef) := h
    rw [← hF] at h'
    subst h'
    exact h2 _)
end
end
section
open Go Go.RowKit

/-- Is the cell taken: by a scarecrow, or by a tree? -/
def takenB (f : Fd) (n : Nat) (F : Nat → Nat → Int) (c : Nat) : Bool := !freeAt F n c || f.K c == 3
theorem freeAt_no {F : Nat → Nat → Int} {n : Nat} {c : Int} {k : Nat} (hk : k < n) (h : F k 0 = c) : freeAt F n c = false := allTo_false hk (by simp [h])
theorem freeAt_yes {F : Nat → Nat → Int} {n : Nat} {c : Int} (h : ∀ i, i < n → (F i 0 != c) = true) : freeAt F n c = true := allTo_iff.2 h
theorem load_f16 (b off : Nat) (n : Int) (w : World) (c : w.cell? ⟨b, off, none⟩ = some (.int .i16 n)) : (Instr.loadAt 24 (.pointer (some ⟨b, off, none⟩))).run Tryd.prog w = .ok (.int .i16 n) w := by
  simp [Instr.loadAt, go_sem, Tryd.underlying24, c]
set_option maxRecDepth 100000 in
set_option maxHeartbeats 4000000 in
theorem l03Taken_any (f : Fd) (n : Nat) (hn : n ≤ 2 ^ 40) (F : Nat → Nat → Int) (hF : ∀ i, i < n → WfT (F i)) (c : Nat) (hc : c < 100) (b d cap : Nat) (w : World) (B : Blk w b (fcells f) 32) (I : InS w d 0 n ksScarecrow F) :
    Calls Tryd.prog 56 #[.pointer (some ⟨b, 0, none⟩), .slice (some ⟨d, 0, none⟩) n cap, .int .i64 c] w fun e w' => e = .returned (.bool (takenB f n F c)) ∧ Below w.heap.size w w' := by
  have HB := Lib.hid B
  have HI := Lib.hid I
  have HF := Lib.hid hF
  clear B I hF
  have hc1 : (c : Int) < 100 := by omega
  go_enter Tryd.func56, Tryd.ntmps56
  go_wp2_with fail
  go_loopw [7] (fun i wr => ∃ k : Nat, k ≤ n ∧ i = .int .i64 k ∧ Hid (∀ i, i < k → (F i 0 != c) = true) ∧ Below w.heap.size w wr) (fun i _ => n - (intOf i).toNat)
  case atStart => exact ⟨0, by omega, rfl, Lib.hid (fun i hi => by omega), Below.refl _ _⟩
  case round =>
    obtain ⟨k, hk, rfl, hall, hb⟩ := hrel
    by_cases hlt : k < n
    · have hw := (HF.out k hlt).b0
      have c0 : wr.cell? ⟨d, k * 3, none⟩ = some (.int .i16 (F k 0)) := by
        have h := (HI.out.later hb) k hlt 0 _ (by rw [Array.getElem?_toList]; exact srow_get ksScarecrow F k 0 (by decide))
        rw [Nat.zero_add, Nat.add_zero] at h; exact h
      obtain ⟨v, hv⟩ : ∃ v, F k 0 = v := ⟨_, rfl⟩
      rw [hv] at c0 hw
      have HV := Lib.hid hv
      clear hv
      by_cases he : v = c
      · have hno : Hid (takenB f n F c = true) := Lib.hid (by unfold takenB; rw [freeAt_no hlt (by rw [HV.out, he])]; rfl)
        subst he
        go_wp2_with fail
        go_ret
        exact ⟨by rw [hno.out]; rfl, hb⟩
      · have hst : Hid ((F k 0 != (c : Int)) = true) := Lib.hid (by rw [HV.out]; simpa using he)
        go_wp2_with fail
        go_roundw
        case rel => exact ⟨k + 1, by omega, by go_num, Lib.hid (upto_succ hall.out hst.out), hb⟩
        case measure => simp [intOf]; omega
    · obtain rfl : k = n := by omega
      have hf1 := freeAt_yes hall.out
      have cK := (HB.out.later hb).cell (fcells_K f c hc)
      have hr : Hid (takenB f k F c = (f.K c == 3)) := Lib.hid (by unfold takenB; rw [hf1]; rfl)
      clear hf1
      cases hk3 : (f.K c == 3) with
      | true =>
        have e3 : f.K c = 3 := by simpa using hk3
        rw [e3] at cK
        have HR : Hid (takenB f k F c = true) := Lib.hid (hr.out.trans hk3)
        clear hk3 e3
        go_wp2_with fail
        go_ret
        exact ⟨by rw [HR.out]; rfl, hb⟩
      | false =>
        have e3 : f.K c ≠ 3 := by simpa using hk3
        clear hk3
        go_wp2_with fail
        go_ret
        exact ⟨by rw [hr.out]; rfl, hb⟩
set_option maxRecDepth 100000 in
set_option maxHeartbeats 4000000 in
theorem newScare_any (c x : Int) (hc : 0 ≤ c ∧ c ≤ 99) (hx : 1 ≤ x ∧ x ≤ 1000) (w : World) :
    Calls Tryd.prog 59 #[.int .i64 c, .int .i64 x] w fun e w' => e = .returned (.agg #[.int .i16 c, .int .i16 x, .int .i8 0]) ∧ Below w.heap.size w w' := by
  obtain ⟨h1, h2⟩ := hc
  obtain ⟨h3, h4⟩ := hx
  have g1 : IntKind.i16.wrap c = c := IntWalk.i16_in _ (by omega)
  have g2 : IntKind.i16.wrap x = x := IntWalk.i16_in _ (by omega)
  go_enter Tryd.func59, Tryd.ntmps59
  go_upto_region 1 with (fail)
  obtain ⟨W, hW, M⟩ := open1 w #[.int .i16 0, .int .i16 0, .int .i8 0] 69
  rw [hW]; clear hW
  have b0 := (M.at 0 rfl).cell (i := 0) (v := .int .i16 0) rfl
  have b1 := (M.at 0 rfl).cell (i := 1) (v := .int .i16 0) rfl
  have b2 := (M.at 0 rfl).cell (i := 2) (v := .int .i8 0) rfl
  have f0 := (M.at 0 rfl).free 0
  have f1 := (M.at 0 rfl).free 1
  have f2 := (M.at 0 rfl).free 2
  go_wp2_with fail
  have M3 := M.cells 0 0 [.int .i16 c, .int .i16 x, .int .i8 0] rfl _ ((((M.at 0 rfl).set 0 _).set 1 _).set 2 _)
  exact bodyPost_ret (results_cell_row rfl _ _ w.heap.size 69 _ _ _ rfl (M3.at 0 rfl) Tryd.underlying69 rfl (by kernel_rfl)) rfl ⟨rfl, M3.below⟩
end
section
open Go Go.RowKit

theorem l03Power_any (n : Int) (w : World) : Calls Tryd.prog 60 #[.int .i64 n] w fun e w' => e = .returned (.bool (inB n 1 1000)) ∧ w = w' := by
  go_enter Tryd.func60, Tryd.ntmps60
  go_wp2_with (go_at_call 53; refine (l00In_any _ _ _ _).mono ?_; rintro e w' ⟨rfl, rfl⟩)
  go_ret
  exact ⟨rfl, rfl⟩
end
section
open Go Go.RowKit

def adCode (f : Fd) (n : Nat) (F : Nat → Nat → Int) (c x : Int) : Int := if askCode f n F (isCell f c && inB x 1 1000) = 0 then (if takenB f n F c.toNat then 4 else if n = 20 then 3 else 0) else askCode f n F (isCell f c && inB x 1 1000)
def adN (f : Fd) (n : Nat) (F : Nat → Nat → Int) (c x : Int) : Nat := if adCode f n F c x = 0 then n + 1 else 0
theorem adN_le (f : Fd) (n : Nat) (F : Nat → Nat → Int) (c x : Int) (hn : n ≤ 2 ^ 40) : adN f n F c x ≤ 2 ^ 40 := by
  unfold adN
  split
  · rename_i h
    unfold adCode at h
    split at h
    · rename_i h0
      have h20 : n ≤ 20 := by
        rcases ask_cases f n F (isCell f c && inB x 1 1000) with ⟨_, hs, _⟩ | ⟨h1, _⟩ | ⟨h1, _⟩
        · exact (okS_field hs).2.2
        · rw [h1] at h0; cases h0
        · rw [h1] at h0; cases h0
      omega
    · rename_i h0; exact absurd h h0
  · omega
/-- The scarecrows, and a new one. -/
def added (F : Nat → Nat → Int) (n : Nat) (c x : Int) : Nat → Nat → Int := fun p q => if p = n then (if q = 0 then c else if q = 1 then x else 0) else F p q
theorem added_cells (F : Nat → Nat → Int) (n : Nat) (c x : Int) : (scells ksScarecrow n F).toList ++ [.int .i16 c, .int .i16 x, .int .i8 0] = (scells ksScarecrow (n + 1) (added F n c x)).toList := by
  have h : scells ksScarecrow n F ++ #[.int .i16 c, .int .i16 x, .int .i8 0] = scells ksScarecrow (n + 1) (added F n c x) := by
    apply scells_ext
    · rw [Array.size_append, scells_size]
      show n * 3 + 3 = (n + 1) * 3
      omega
    · intro i j hi hj
      have hj3 : j < 3 := hj
      show (scells ksScarecrow n F ++ #[.int .i16 c, .int .i16 x, .int .i8 0])[i * 3 + j]? = _
      have hs : (scells ksScarecrow n F).size = n * 3 := scells_size _ _ _
      by_cases e : i < n
      · rw [Array.getElem?_append_left (by omega)]
        have h1 := scells_get ksScarecrow n F i j e hj
        have e2 : sget ksScarecrow (added F n c x) i j = sget ksScarecrow F i j := by unfold sget added; rw [if_neg (by omega)]
        rw [e2]; exact h1
      · obtain rfl : i = n := by omega
        rw [Array.getElem?_append_right (by omega), hs, show i * 3 + j - i * 3 = j by omega]
        have hq : j = 0 ∨ j = 1 ∨ j = 2 := by omega
        unfold sget added
        rw [if_pos rfl]
        rcases hq with rfl | rfl | rfl <;> rfl
  rw [← h, Array.toList_append]
set_option maxHeartbeats 2000000 in
set_option maxRecDepth 100000 in
theorem Cclone_own (n : Nat) (hn : n ≤ 2 ^ 40) (F : Nat → Nat → Int) (b c : Nat) (w : World) (I : InS w b 0 n ksScarecrow F) :
    Calls Tryd.prog 58 #[.slice (some ⟨b, 0, none⟩) n c] w fun e w' => ∃ v, e = .returned v ∧ w'.ownsRow w.heap.size 69 3 v n (scells ksScarecrow n F).toList ∧ Below w.heap.size w w' := by
  have HI := Lib.hid I
  clear I
  have q22 : ∀ (w : World) (a : Option Addr) (n c n' c' : Nat), (binOp .eql 34 (.slice a n c) (.slice none n' c')).run Tryd.prog w = .ok (.bool a.isNone) w := fun w a n c n' c' => Lib.run_eql_slice_nil w _ _ a n c n' c' Tryd.underlying34
  obtain ⟨i0, hi, hz0, hz1, hz2⟩ := info_parts Cinfo
  go_enter Tryd.func58, Tryd.ntmps58
  go_wp2_with (at_builtin; refine wpList_append_own _ rfl _ _ 34 rfl w.heap.size 69 i0 (.agg #[.int .i16 0, .int .i16 0, .int .i8 0]) 3 6 Tryd.underlying34 hi hz0 hz1 hz2 rfl (by decide) _ _ _ rfl (World.ownsRow_made w #[] 0 (Nat.le_refl _) (Nat.zero_le _) (by simp)) ⟨b, 0, none⟩ n c (scells ksScarecrow n F).toList rfl ?qc1 ?qc2 ?qc3 ?qc4 ?qc5 ?qc6 ?_)
  case qc1 => exact Slen _ _ _
  case qc2 =>
    intro j u hj
    exact Lib.cell?_alloc_some _ (Snews (by decide) HI.out j u hj)
  case qc3 => exact Sone _ _ _
  case qc4 => rw [Nat.zero_add]; unfold maxLen; omega
  case qc5 => rw [Nat.zero_add]; omega
  case qc6 => simp
  intro v' w1 hown hgrow hnil
  go_wp2
  go_ret
  (try simp only [Nat.zero_add, List.nil_append] at hown)
  exact ⟨v', rfl, hown, ((Below.refl _ w).alloc (Nat.le_refl _) _).grown hgrow (by simp) (by intro k hk; simp [Value.ownBlock] at hk; omega)⟩
theorem add_err (A : Nat → Addr) {f : Fd} {n : Nat} {F : Nat → Nat → Int} {c x : Int} (hs : okScares f n F = true) (hp : inB x 1 1000 = true) : (freeErr A f F n c = .nilIface ∧ adCode f n F c x = if n = 20 then 3 else 0) ∨ (∃ k : Nat, 1 ≤ k ∧ k ≤ 8 ∧ freeErr A f F n c = errVal (A k) ∧ adCode f n F c x = k) := by
  unfold adCode freeErr
  rw [hp, Bool.and_true]
  cases hcl : isCell f c with
  | true =>
    have hcn : ((c.toNat : Nat) : Int) = c := Int.toNat_of_nonneg (cell_in hcl).1
    rw [ask_ok (fine := true) hs rfl, if_pos rfl]
    unfold takenB standsOk placeErr
    rw [hcn, hcl]
    by_cases hk : f.K c.toNat = 3
    · exact .inr ⟨4, by omega, by omega, by simp [hk], by simp [hk]⟩
    · cases hfr : freeAt F n c with
      | true => exact .inl ⟨by simp [hk], by simp [hk]⟩
      | false => exact .inr ⟨4, by omega, by omega, by simp [hk], by simp [hk]⟩
  | false =>
    rw [ask_bad (fine := false) hs rfl]
    unfold standsOk placeErr
    rw [hcl]
    exact .inr ⟨2, by omega, by omega, rfl, rfl⟩
set_option maxRecDepth 100000 in
set_option maxHeartbeats 8000000 in
theorem checkAdding_any (f : Fd) (hf : f.Wf) (n : Nat) (hn : n ≤ 2 ^ 40) (F : Nat → Nat → Int) (hF : WfS ksScarecrow n F) (c : Int) (hcb : -9223372036854775808 ≤ c ∧ c ≤ 9223372036854775807) (x : Int) (hxb : -9223372036854775808 ≤ x ∧ x ≤ 9223372036854775807) (b cap : Nat) (hcap : n ≤ cap) (A : Nat → Addr) (w : World) (I : InS w b 0 n ksScarecrow F) (S0 : Sents w A) :
    Calls Tryd.prog 61 #[.agg (fcells f), .slice (some ⟨b, 0, none⟩) n cap, .int .i64 c, .int .i64 x] w fun e w' => e = .returned (askErr A (adCode f n F c x)) ∧ Below w.heap.size w w' := by
  have HI := Lib.hid I
  have S : Hid (Sents w A) := Lib.hid S0
  clear I S0
  have hif := isIfaceErr
  obtain ⟨hc1, hc2⟩ := hcb
  cases hs : okScares f n F with
  | false =>
    have hk : adCode f n F c x = 1 := by unfold adCode; rw [ask_no hs, if_neg (by decide)]
    have hc : Hid (askErr A (askCode f n F (allTo 0 (fun _ => isCell f 0))) = errVal (A 1)) := Lib.hid (by rw [ask_no hs]; rfl)
    rw [hk, show askErr A 1 = errVal (A 1) from rfl]
    clear hk hs
    go_enter Tryd.func61, Tryd.ntmps61
    go_upto_region 1 with (fail)
    obtain ⟨W, hW, M⟩ := open1 w (fcells f) 32
    rw [hW]; clear hW
    go_wp2_with (first
      | (refine wpList_load_part rfl 32 _ rfl w.heap.size 0 rfl (fcells f) _ (M.at 0 rfl).whole Tryd.underlying32 rfl (by rw [fcells_size]; exact sizeFd) ?_)
      | (go_at_call 48; refine (checkScares_any f hf n hn F hF b cap hcap 0 (by omega) (fun _ => 0) (fun _ h => absurd h (by omega)) none 0 A _ (HI.out.later M.below) (.inl rfl) (S.out.later M.below)).mono ?_; rintro e W2 ⟨rfl, hb⟩; rw [hc.out]; have M2 := M.call hb; have hv2 := (S.out.later M2.below).v2; clear M hb))
    go_ret
    exact ⟨rfl, M2.below⟩
  | true =>
  have hc : Hid (askErr A (askCode f n F (allTo 0 (fun _ => isCell f 0))) = .nilIface) := Lib.hid (by rw [ask_ok (fine := allTo 0 (fun _ => isCell f 0)) hs rfl]; rfl)
  have hok := (okS_field hs).1
  cases hp : inB x 1 1000 with
  | false =>
    have hk : adCode f n F c x = 2 := by unfold adCode; rw [hp, Bool.and_false, ask_bad (fine := false) hs rfl, if_neg (by decide)]
    rw [hk, show askErr A 2 = errVal (A 2) from rfl]
    have HP := Lib.hid hp
    clear hk hs hp
    go_enter Tryd.func61, Tryd.ntmps61
    go_upto_region 1 with (fail)
    obtain ⟨W, hW, M⟩ := open1 w (fcells f) 32
    rw [hW]; clear hW
    go_wp2_with (first
      | (refine wpList_load_part rfl 32 _ rfl w.heap.size 0 rfl (fcells f) _ (M.at 0 rfl).whole Tryd.underlying32 rfl (by rw [fcells_size]; exact sizeFd) ?_)
      | (go_at_call 48; refine (checkScares_any f hf n hn F hF b cap hcap 0 (by omega) (fun _ => 0) (fun _ h => absurd h (by omega)) none 0 A _ (HI.out.later M.below) (.inl rfl) (S.out.later M.below)).mono ?_; rintro e W2 ⟨rfl, hb⟩; rw [hc.out]; have M2 := M.call hb; have hv2 := (S.out.later M2.below).v2; clear M hb)
      | (go_at_call 98; refine (isPower_ok x _).mono ?_; rintro e w3 ⟨rfl, rfl⟩; rw [HP.out]))
    go_ret
    exact ⟨rfl, M2.below⟩
  | true =>
    have HP := Lib.hid hp
    rcases add_err A (c := c) hs hp with ⟨hfr, hk⟩ | ⟨k, hk1, hk8, hfr, hk⟩
    · have HFR := Lib.hid hfr
      rw [hk]
      clear hk hfr hs hp
      by_cases h20 : n = 20
      · rw [if_pos h20, show askErr A 3 = errVal (A 3) from rfl]
        have h20' : (n : Int) = 20 := by omega
        clear h20
        go_enter Tryd.func61, Tryd.ntmps61
        go_upto_region 1 with (fail)
        obtain ⟨W, hW, M⟩ := open1 w (fcells f) 32
        rw [hW]; clear hW
        go_wp2_with (first
          | (refine wpList_load_part rfl 32 _ rfl w.heap.size 0 rfl (fcells f) _ (M.at 0 rfl).whole Tryd.underlying32 rfl (by rw [fcells_size]; exact sizeFd) ?_)
          | (go_at_call 48; refine (checkScares_any f hf n hn F hF b cap hcap 0 (by omega) (fun _ => 0) (fun _ h => absurd h (by omega)) none 0 A _ (HI.out.later M.below) (.inl rfl) (S.out.later M.below)).mono ?_; rintro e W2 ⟨rfl, hb⟩; rw [hc.out]; have M2 := M.call hb; have hv2 := (S.out.later M2.below).v2; clear M hb)
          | (go_at_call 98; refine (isPower_ok x _).mono ?_; rintro e w3 ⟨rfl, rfl⟩; rw [HP.out])
          | (refine wpList_load_part rfl 32 _ rfl w.heap.size 0 rfl (fcells f) _ (M2.at 0 rfl).whole Tryd.underlying32 rfl (by rw [fcells_size]; exact sizeFd) ?_)
          | (go_at_call 97; refine (checkFree_any f hf hok n hn F hF b cap c hc1 hc2 A _ (S.out.later M2.below).two (HI.out.later M2.below)).mono ?_; rintro e W4 ⟨rfl, hb⟩; rw [HFR.out]; have M4 := M2.call hb; have hv3 := (S.out.later M4.below).v3; clear hb))
        go_ret
        exact ⟨rfl, M4.below⟩
      · rw [if_neg h20, show askErr A 0 = .nilIface from rfl]
        have h20' : ¬ (n : Int) = 20 := by omega
        go_enter Tryd.func61, Tryd.ntmps61
        go_upto_region 1 with (fail)
        obtain ⟨W, hW, M⟩ := open1 w (fcells f) 32
        rw [hW]; clear hW
        go_wp2_with (first
          | (refine wpList_load_part rfl 32 _ rfl w.heap.size 0 rfl (fcells f) _ (M.at 0 rfl).whole Tryd.underlying32 rfl (by rw [fcells_size]; exact sizeFd) ?_)
          | (go_at_call 48; refine (checkScares_any f hf n hn F hF b cap hcap 0 (by omega) (fun _ => 0) (fun _ h => absurd h (by omega)) none 0 A _ (HI.out.later M.below) (.inl rfl) (S.out.later M.below)).mono ?_; rintro e W2 ⟨rfl, hb⟩; rw [hc.out]; have M2 := M.call hb; have hv2 := (S.out.later M2.below).v2; clear M hb)
          | (go_at_call 98; refine (isPower_ok x _).mono ?_; rintro e w3 ⟨rfl, rfl⟩; rw [HP.out])
          | (refine wpList_load_part rfl 32 _ rfl w.heap.size 0 rfl (fcells f) _ (M2.at 0 rfl).whole Tryd.underlying32 rfl (by rw [fcells_size]; exact sizeFd) ?_)
          | (go_at_call 97; refine (checkFree_any f hf hok n hn F hF b cap c hc1 hc2 A _ (S.out.later M2.below).two (HI.out.later M2.below)).mono ?_; rintro e W4 ⟨rfl, hb⟩; rw [HFR.out]; have M4 := M2.call hb; have hv3 := (S.out.later M4.below).v3; clear hb))
        go_ret
        exact ⟨rfl, M4.below⟩
    · have HFR := Lib.hid hfr
      rw [hk, show askErr A (k : Int) = errVal (A k) by unfold askErr; rw [if_neg (by omega), Int.toNat_natCast]]
      clear hk hfr hs hp
      go_enter Tryd.func61, Tryd.ntmps61
      go_upto_region 1 with (fail)
      obtain ⟨W, hW, M⟩ := open1 w (fcells f) 32
      rw [hW]; clear hW
      go_wp2_with (first
        | (refine wpList_load_part rfl 32 _ rfl w.heap.size 0 rfl (fcells f) _ (M.at 0 rfl).whole Tryd.underlying32 rfl (by rw [fcells_size]; exact sizeFd) ?_)
        | (go_at_call 48; refine (checkScares_any f hf n hn F hF b cap hcap 0 (by omega) (fun _ => 0) (fun _ h => absurd h (by omega)) none 0 A _ (HI.out.later M.below) (.inl rfl) (S.out.later M.below)).mono ?_; rintro e W2 ⟨rfl, hb⟩; rw [hc.out]; have M2 := M.call hb; have hv2 := (S.out.later M2.below).v2; clear M hb)
        | (go_at_call 98; refine (isPower_ok x _).mono ?_; rintro e w3 ⟨rfl, rfl⟩; rw [HP.out])
        | (refine wpList_load_part rfl 32 _ rfl w.heap.size 0 rfl (fcells f) _ (M2.at 0 rfl).whole Tryd.underlying32 rfl (by rw [fcells_size]; exact sizeFd) ?_)
        | (go_at_call 97; refine (checkFree_any f hf hok n hn F hF b cap c hc1 hc2 A _ (S.out.later M2.below).two (HI.out.later M2.below)).mono ?_; rintro e W4 ⟨rfl, hb⟩; rw [HFR.out]; have M4 := M2.call hb; have hv3 := (S.out.later M4.below).v3; clear hb))
      go_ret
      exact ⟨rfl, M4.below⟩
theorem owns_belowA {w w' : World} {base : Nat} {e : TypeId} {size : Nat} {v : Value} {n : Nat} {xs : List Value} (h : w.ownsRow base e size v n xs) (hb : Below w.heap.size w w') : w'.ownsRow base e size v n xs :=
  h.kept (row := none) ⟨hb.os, hb.tape, hb.output, hb.size, fun k hk _ => hb.block k hk⟩ (Classical.em _)
theorem ad_codes (f : Fd) (n : Nat) (F : Nat → Nat → Int) (c x : Int) : (adCode f n F c x = 0 ∧ okScares f n F = true ∧ isCell f c = true ∧ inB x 1 1000 = true ∧ n ≤ 20) ∨ ∃ k : Nat, 1 ≤ k ∧ k ≤ 8 ∧ adCode f n F c x = k := by
  unfold adCode
  rcases ask_cases f n F (isCell f c && inB x 1 1000) with ⟨h, hs, hp⟩ | ⟨h, _⟩ | ⟨h, _⟩
  · rw [h, if_pos rfl]
    cases takenB f n F c.toNat with
    | true => exact .inr ⟨4, by omega, by omega, rfl⟩
    | false =>
      by_cases h20 : n = 20
      · exact .inr ⟨3, by omega, by omega, by rw [if_neg (by decide), if_pos h20]; rfl⟩
      · have h2 : isCell f c = true ∧ inB x 1 1000 = true := by simpa using hp
        exact .inl ⟨by rw [if_neg (by decide), if_neg h20], hs, h2.1, h2.2, (okS_field hs).2.2⟩
  · exact .inr ⟨1, by omega, by omega, by rw [h, if_neg (by decide)]; rfl⟩
  · exact .inr ⟨2, by omega, by omega, by rw [h, if_neg (by decide)]; rfl⟩
set_option maxRecDepth 100000 in
set_option maxHeartbeats 8000000 in
theorem implAddScare (f : Fd) (hf : f.Wf) (n : Nat) (hn : n ≤ 2 ^ 40) (F : Nat → Nat → Int) (hF : WfS ksScarecrow n F) (c : Int) (hcb : -9223372036854775808 ≤ c ∧ c ≤ 9223372036854775807) (x : Int) (hxb : -9223372036854775808 ≤ x ∧ x ≤ 9223372036854775807) (b cap : Nat) (hcap : n ≤ cap) (A : Nat → Addr) (w : World) (I : InS w b 0 n ksScarecrow F) (S0 : Sents w A) :
    Calls Tryd.prog 26 #[.agg (fcells f), .slice (some ⟨b, 0, none⟩) n cap, .int .i64 c, .int .i64 x] w fun e w' => ∃ p c', e = .returned (.tuple #[.slice p (adN f n F c x) c', .int .i64 (adCode f n F c x)]) ∧ SV ksScarecrow w.heap.size w'.heap.size w' p (adN f n F c x) (added F n c x) ∧ SW ksScarecrow 69 w.heap.size w'.heap.size w' p (adN f n F c x) ∧ Below w.heap.size w w' := by
  have HI := Lib.hid I
  have S : Hid (Sents w A) := Lib.hid S0
  clear I S0
  have hif := isIfaceErr
  rcases ad_codes f n F c x with ⟨hk, hs, hcl, hp, h20⟩ | ⟨k, h1, h8, hk⟩
  · have HE : Hid (askErr A (adCode f n F c x) = .nilIface) := Lib.hid (by rw [hk]; rfl)
    have hN : adN f n F c x = n + 1 := by unfold adN; rw [if_pos hk]
    rw [hN, hk]
    have hin := Lib.hid (cell_in hcl)
    have hpp := Lib.hid (inB_iff.1 hp)
    obtain ⟨i0, hi, hz0, hz1, hz2⟩ := info_parts Cinfo
    clear hk hs hcl hp hN
    go_enter Tryd.func26, Tryd.ntmps26
    go_upto_region 1 with (fail)
    obtain ⟨W, hW, M⟩ := open1 w (fcells f) 32
    rw [hW]; clear hW
    go_wp2_with (first
      | (refine wpList_load_part rfl 32 _ rfl w.heap.size 0 rfl (fcells f) _ (M.at 0 rfl).whole Tryd.underlying32 rfl (by rw [fcells_size]; exact sizeFd) ?_)
      | (go_at_call 61; refine (checkAdding_any f hf n hn F hF c hcb x hxb b cap hcap A _ (HI.out.later M.below) (S.out.later M.below)).mono ?_; rintro e W2 ⟨rfl, hb⟩; rw [HE.out]; have M2 := M.call hb; clear M hb)
      | (go_at_call 58; refine (Cclone_own n hn F b cap _ (HI.out.later M2.below)).mono ?_; rintro e W4 ⟨v, rfl, hO, hb⟩; have M4 := M2.call hb; have hO2 := hO.mono M2.below.size; have hOs := hb.size; clear hb hO)
      | (go_at_call 59; refine (newScare_any c x hin.out hpp.out _).mono ?_; rintro e W6 ⟨rfl, hb6⟩; have M6 := M4.call hb6; have hO3 := owns_belowA hO2 hb6; clear hb6 hO2)
      | (at_builtin; refine wpList_append_own _ rfl _ _ 34 rfl w.heap.size 69 i0 (.agg #[.int .i16 0, .int .i16 0, .int .i8 0]) 3 6 Tryd.underlying34 hi hz0 hz1 hz2 rfl (by decide) _ _ _ rfl (World.ownsRow.alloc hO3 _) ⟨W6.heap.size, 0, none⟩ 1 1 [.int .i16 c, .int .i16 x, .int .i8 0] rfl rfl ?qc2 ?qc3 ?qc4 ?qc5 ?qc6 ?_))
    case qc2 =>
      intro j u hj
      rw [Addr.add_lit, Nat.zero_add]
      exact (Blk.new W6 #[.int .i16 c, .int .i16 x, .int .i8 0] 69).cell (by rw [← Array.getElem?_toList]; exact hj)
    case qc3 => intro u hu; simp at hu; rcases hu with rfl | rfl | rfl <;> rfl
    case qc4 => unfold maxLen; omega
    case qc5 => omega
    case qc6 => have := M6.below.size; simp; omega
    intro v' w1 hown hgrow hnil
    rw [added_cells F n c x] at hown
    have hb := (M6.below.alloc M6.below.size (.cells #[.int .i16 c, .int .i16 x, .int .i8 0] 69)).grown hgrow (by have := M6.below.size; simp; omega) (fun k hk => (hO3.lt k hk).1)
    obtain ⟨p, c', rfl, hSO⟩ := Sown (ks := ksScarecrow) hown
    clear hown hgrow hnil hi hz0 hz1 hz2 hO3
    go_wp2_with fail
    go_ret2
    exact ⟨p, c', rfl, hSO.inS, hSO.sw, hb⟩
  · have hN : adN f n F c x = 0 := by unfold adN; rw [if_neg (by rw [hk]; omega)]
    have HE : Hid (askErr A (adCode f n F c x) = errVal (A k)) := Lib.hid (by rw [hk]; unfold askErr; rw [if_neg (by omega), Int.toNat_natCast])
    rw [hN, hk]
    clear hN hk
    go_enter Tryd.func26, Tryd.ntmps26
    go_upto_region 1 with (fail)
    obtain ⟨W, hW, M⟩ := open1 w (fcells f) 32
    rw [hW]; clear hW
    go_wp2_with (first
      | (refine wpList_load_part rfl 32 _ rfl w.heap.size 0 rfl (fcells f) _ (M.at 0 rfl).whole Tryd.underlying32 rfl (by rw [fcells_size]; exact sizeFd) ?_)
      | (go_at_call 61; refine (checkAdding_any f hf n hn F hF c hcb x hxb b cap hcap A _ (HI.out.later M.below) (S.out.later M.below)).mono ?_; rintro e W2 ⟨rfl, hb⟩; rw [HE.out]; have M2 := M.call hb; clear M hb)
      | (go_at_call 49; refine (codeOf_err A k h1 h8 _ (S.out.later M2.below)).mono ?_; rintro e W3 ⟨rfl, rfl⟩))
    go_ret2
    exact ⟨_, _, rfl, .inl rfl, .inl rfl, M2.below⟩
end
section
open Go Go.RowKit

set_option maxRecDepth 100000 in
set_option maxHeartbeats 8000000 in
theorem specAddScare (f : Fd) (hf : f.Wf) (n : Nat) (hn : n ≤ 2 ^ 40) (F : Nat → Nat → Int) (hF : WfS ksScarecrow n F) (c : Int) (hcb : -9223372036854775808 ≤ c ∧ c ≤ 9223372036854775807) (x : Int) (hxb : -9223372036854775808 ≤ x ∧ x ≤ 9223372036854775807) (b cap : Nat) (w : World) (I : InS w b 0 n ksScarecrow F) :
    Calls Tryd.prog 25 #[.agg (fcells f), .slice (some ⟨b, 0, none⟩) n cap, .int .i64 c, .int .i64 x] w fun e w' => ∃ p c', e = .returned (.tuple #[.slice p (adN f n F c x) c', .int .i64 (adCode f n F c x)]) ∧ SV ksScarecrow w.heap.size w'.heap.size w' p (adN f n F c x) (added F n c x) ∧ SW ksScarecrow 69 w.heap.size w'.heap.size w' p (adN f n F c x) ∧ Below w.heap.size w w' := by
  have HI := Lib.hid I
  clear I
  obtain ⟨fine, hfi⟩ : ∃ fine, (isCell f c && inB x 1 1000) = fine := ⟨_, rfl⟩
  cases hcl : isCell f c with
  | false =>
    have HCL := Lib.hid hcl
    obtain rfl : fine = false := by rw [← hfi, hcl]; rfl
    clear hcl
    obtain ⟨k, hk0, hk⟩ : ∃ k : Int, k ≠ 0 ∧ askCode f n F false = k := by
      rcases ask_cases f n F false with ⟨h, h1, h2⟩ | ⟨h, _⟩ | ⟨h, _⟩
      · first | (cases h2; done) | (rw [h1] at hs; cases hs; done)
      · exact ⟨1, by decide, h⟩
      · exact ⟨2, by decide, h⟩
    have hC : adCode f n F c x = k := by unfold adCode; rw [hfi, hk, if_neg hk0]
    have hN : adN f n F c x = 0 := by unfold adN; rw [hC, if_neg hk0]
    rw [hN, hC]
    have HC := Lib.hid hk
    have hkb : (k != 0) = true := by simpa using hk0
    clear hk hk0 hC hN hfi
    go_enter Tryd.func25, Tryd.ntmps25
    go_upto_region 1 with (fail)
    obtain ⟨W, hW, M⟩ := open1 w (fcells f) 32
    rw [hW]; clear hW
    go_wp2_with (first
      | (go_at_call 43; refine (l01Is_any f _ w.heap.size _ hf.W hf.H (M.at 0 rfl)).mono ?_; rintro e w9 ⟨rfl, rfl⟩; rw [HCL.out])
      | (go_at_call 42; refine (l03Asked_any f hf n hn F hF false w.heap.size b cap _ (M.at 0 rfl) (HI.out.later M.below)).mono ?_; rintro e W3 ⟨rfl, hb⟩; rw [HC.out]; have M3 := M.call hb; clear M hb))
    go_ret2
    exact ⟨_, _, rfl, .inl rfl, .inl rfl, (M3.alloc #[] 69).below⟩
  | true =>
  have HCL := Lib.hid hcl
  cases hp : inB x 1 1000 with
  | false =>
    have HP := Lib.hid hp
    obtain rfl : fine = false := by rw [← hfi, hcl, hp]; rfl
    clear hcl hp
    obtain ⟨k, hk0, hk⟩ : ∃ k : Int, k ≠ 0 ∧ askCode f n F false = k := by
      rcases ask_cases f n F false with ⟨h, h1, h2⟩ | ⟨h, _⟩ | ⟨h, _⟩
      · first | (cases h2; done) | (rw [h1] at hs; cases hs; done)
      · exact ⟨1, by decide, h⟩
      · exact ⟨2, by decide, h⟩
    have hC : adCode f n F c x = k := by unfold adCode; rw [hfi, hk, if_neg hk0]
    have hN : adN f n F c x = 0 := by unfold adN; rw [hC, if_neg hk0]
    rw [hN, hC]
    have HC := Lib.hid hk
    have hkb : (k != 0) = true := by simpa using hk0
    clear hk hk0 hC hN hfi
    go_enter Tryd.func25, Tryd.ntmps25
    go_upto_region 1 with (fail)
    obtain ⟨W, hW, M⟩ := open1 w (fcells f) 32
    rw [hW]; clear hW
    go_wp2_with (first
      | (go_at_call 43; refine (l01Is_any f _ w.heap.size _ hf.W hf.H (M.at 0 rfl)).mono ?_; rintro e w9 ⟨rfl, rfl⟩; rw [HCL.out])
      | (go_at_call 60; refine (l03Power_any x _).mono ?_; rintro e w9 ⟨rfl, rfl⟩; rw [HP.out])
      | (go_at_call 42; refine (l03Asked_any f hf n hn F hF false w.heap.size b cap _ (M.at 0 rfl) (HI.out.later M.below)).mono ?_; rintro e W3 ⟨rfl, hb⟩; rw [HC.out]; have M3 := M.call hb; clear M hb))
    go_ret2
    exact ⟨_, _, rfl, .inl rfl, .inl rfl, (M3.alloc #[] 69).below⟩
  | true =>
    have HP := Lib.hid hp
    obtain rfl : fine = true := by rw [← hfi, hcl, hp]; rfl
    obtain ⟨m, hm, rfl⟩ := cell_nat hcl
    have hpp := inB_iff.1 hp
    clear hcl hp
    cases hs : okScares f n F with
    | false =>
      obtain ⟨k, hk0, hk⟩ : ∃ k : Int, k ≠ 0 ∧ askCode f n F true = k := by
        rcases ask_cases f n F true with ⟨h, h1, h2⟩ | ⟨h, _⟩ | ⟨h, _⟩
        · first | (cases h2; done) | (rw [h1] at hs; cases hs; done)
        · exact ⟨1, by decide, h⟩
        · exact ⟨2, by decide, h⟩
      have hC : adCode f n F (m : Int) x = k := by unfold adCode; rw [hfi, hk, if_neg hk0]
      have hN : adN f n F (m : Int) x = 0 := by unfold adN; rw [hC, if_neg hk0]
      rw [hN, hC]
      have HC := Lib.hid hk
      have hkb : (k != 0) = true := by simpa using hk0
      clear hk hk0 hC hN hfi
      go_enter Tryd.func25, Tryd.ntmps25
      go_upto_region 1 with (fail)
      obtain ⟨W, hW, M⟩ := open1 w (fcells f) 32
      rw [hW]; clear hW
      go_wp2_with (first
        | (go_at_call 43; refine (l01Is_any f _ w.heap.size _ hf.W hf.H (M.at 0 rfl)).mono ?_; rintro e w9 ⟨rfl, rfl⟩; rw [HCL.out])
        | (go_at_call 60; refine (l03Power_any x _).mono ?_; rintro e w9 ⟨rfl, rfl⟩; rw [HP.out])
        | (go_at_call 42; refine (l03Asked_any f hf n hn F hF true w.heap.size b cap _ (M.at 0 rfl) (HI.out.later M.below)).mono ?_; rintro e W3 ⟨rfl, hb⟩; rw [HC.out]; have M3 := M.call hb; clear M hb))
      go_ret2
      exact ⟨_, _, rfl, .inl rfl, .inl rfl, (M3.alloc #[] 69).below⟩
    | true =>
      have hk := ask_ok (fine := true) hs rfl
      have h20 := (okS_field hs).2.2
      have HC := Lib.hid hk
      have HWF := Lib.hid (fun i (hi : i < n) => wfT_row hF hi)
      have hcode : adCode f n F (m : Int) x = if takenB f n F m then 4 else if n = 20 then 3 else 0 := by unfold adCode; rw [hfi, hk, if_pos rfl, Int.toNat_natCast]
      clear hk
      cases ht : takenB f n F m with
      | true =>
        have HT := Lib.hid ht
        have hC : adCode f n F (m : Int) x = 4 := by rw [hcode, ht]; rfl
        clear ht hcode
        have hN : adN f n F (m : Int) x = 0 := by unfold adN; rw [hC, if_neg (by decide)]
        rw [hN, hC]
        clear hC hN hfi hs
        go_enter Tryd.func25, Tryd.ntmps25
        go_upto_region 1 with (fail)
        obtain ⟨W, hW, M⟩ := open1 w (fcells f) 32
        rw [hW]; clear hW
        go_wp2_with (first
          | (go_at_call 43; refine (l01Is_any f _ w.heap.size _ hf.W hf.H (M.at 0 rfl)).mono ?_; rintro e w9 ⟨rfl, rfl⟩; rw [HCL.out])
          | (go_at_call 60; refine (l03Power_any x _).mono ?_; rintro e w9 ⟨rfl, rfl⟩; rw [HP.out])
          | (go_at_call 42; refine (l03Asked_any f hf n hn F hF true w.heap.size b cap _ (M.at 0 rfl) (HI.out.later M.below)).mono ?_; rintro e W3 ⟨rfl, hb⟩; rw [HC.out]; have M3 := M.call hb; clear M hb)
          | (go_at_call 56; refine (l03Taken_any f n hn F HWF.out m hm w.heap.size b cap _ (M3.at 0 rfl) (HI.out.later M3.below)).mono ?_; rintro e W4 ⟨rfl, hb⟩; rw [HT.out]; have M4 := M3.call hb; clear M3 hb))
        go_ret2
        exact ⟨_, _, rfl, .inl rfl, .inl rfl, (M4.alloc #[] 69).below⟩
      | false =>
        have HT := Lib.hid ht
        by_cases he : n = 20
        · have hC : adCode f n F (m : Int) x = 3 := by rw [hcode, ht, if_neg (by decide), if_pos he]
          have he' : (n : Int) = 20 := by omega
          clear ht hcode he h20
          have hN : adN f n F (m : Int) x = 0 := by unfold adN; rw [hC, if_neg (by decide)]
          rw [hN, hC]
          clear hC hN hfi hs
          go_enter Tryd.func25, Tryd.ntmps25
          go_upto_region 1 with (fail)
          obtain ⟨W, hW, M⟩ := open1 w (fcells f) 32
          rw [hW]; clear hW
          go_wp2_with (first
            | (go_at_call 43; refine (l01Is_any f _ w.heap.size _ hf.W hf.H (M.at 0 rfl)).mono ?_; rintro e w9 ⟨rfl, rfl⟩; rw [HCL.out])
            | (go_at_call 60; refine (l03Power_any x _).mono ?_; rintro e w9 ⟨rfl, rfl⟩; rw [HP.out])
            | (go_at_call 42; refine (l03Asked_any f hf n hn F hF true w.heap.size b cap _ (M.at 0 rfl) (HI.out.later M.below)).mono ?_; rintro e W3 ⟨rfl, hb⟩; rw [HC.out]; have M3 := M.call hb; clear M hb)
            | (go_at_call 56; refine (l03Taken_any f n hn F HWF.out m hm w.heap.size b cap _ (M3.at 0 rfl) (HI.out.later M3.below)).mono ?_; rintro e W4 ⟨rfl, hb⟩; rw [HT.out]; have M4 := M3.call hb; clear M3 hb))
          go_ret2
          exact ⟨_, _, rfl, .inl rfl, .inl rfl, (M4.alloc #[] 69).below⟩
        have hC : adCode f n F (m : Int) x = 0 := by rw [hcode, ht, if_neg (by decide), if_neg he]
        have hN : adN f n F (m : Int) x = n + 1 := by unfold adN; rw [if_pos hC]
        rw [hN, hC]
        have he' : ¬ (n : Int) = 20 := by omega
        have hm1 : IntKind.i16.wrap (m : Int) = m := IntWalk.i16_in _ (by omega)
        have hx1 : IntKind.i16.wrap x = x := IntWalk.i16_in _ (by omega)
        obtain ⟨i0, hi, hz0, hz1, hz2⟩ := info_parts Cinfo
        clear hC hN hcode ht he hfi hs
        go_enter Tryd.func25, Tryd.ntmps25
        go_upto_region 1 with (fail)
        obtain ⟨W, hW, M⟩ := open1 w (fcells f) 32
        rw [hW]; clear hW
        go_upto_region 9 with (first
          | (go_at_call 43; refine (l01Is_any f _ w.heap.size _ hf.W hf.H (M.at 0 rfl)).mono ?_; rintro e w9 ⟨rfl, rfl⟩; rw [HCL.out])
          | (go_at_call 60; refine (l03Power_any x _).mono ?_; rintro e w9 ⟨rfl, rfl⟩; rw [HP.out])
          | (go_at_call 42; refine (l03Asked_any f hf n hn F hF true w.heap.size b cap _ (M.at 0 rfl) (HI.out.later M.below)).mono ?_; rintro e W3 ⟨rfl, hb⟩; rw [HC.out]; have M3 := M.call hb; clear M hb)
          | (go_at_call 56; refine (l03Taken_any f n hn F HWF.out m hm w.heap.size b cap _ (M3.at 0 rfl) (HI.out.later M3.below)).mono ?_; rintro e W4 ⟨rfl, hb⟩; rw [HT.out]; have M4 := M3.call hb; clear M3 hb))
        have M5 := M4.alloc #[.int .i16 (m : Int), .int .i16 x, .int .i8 0] 69
        obtain ⟨nb, hnb⟩ : ∃ nb, nb = W4.heap.size := ⟨_, rfl⟩
        rw [← hnb] at M5 ⊢
        generalize World.alloc _ _ = W5 at M5 ⊢
        clear M4 hnb hm1 hx1 he'
        rcases Nat.eq_zero_or_pos n with rfl | hpos
        · clear h20
          refine wp_region_rel_tail 5 (DL [dP (fun v lo _ w9 => v = .slice (some ⟨lo, 0, none⟩) 0 0 ∧ Blk w9 lo #[] 69), dV (.slice (some ⟨b, 0, none⟩) 0 cap), dR id, dV (.agg #[.int .i16 (m : Int), .int .i16 x, .int .i8 0]), dP (fun v lo _ w9 => v = .slice (some ⟨lo, 0, none⟩) 1 1 ∧ Blk w9 lo #[.int .i16 (m : Int), .int .i16 x, .int .i8 0] 69)]) (fun w' => Mem w w' [⟨w.heap.size, fcells f, 32⟩, ⟨nb, #[.int .i16 (m : Int), .int .i16 x, .int .i8 0], 69⟩]) (by kernel_rfl) (by kernel_rfl) grows_mem
            (stays_DL (fun d hd => by
              simp only [List.mem_cons, List.mem_nil_iff, or_false] at hd
              rcases hd with rfl | rfl | rfl | rfl | rfl <;> first | exact stay_V | exact stay_P | exact stay_R)) M5.drew ?_
          refine rel_runP _ rfl rfl (fun w9 _ => ⟨.slice (some ⟨w9.heap.size, 0, none⟩) 0 0, w9.alloc (.cells #[] 69), by simp [execOp, go_sem], (Below.refl _ _).alloc (Nat.le_refl _) _, fun w8 hb8 => ⟨rfl, (Blk.new w9 #[] 69).later hb8⟩⟩) (fun v lo0 hi0 _ ⟨_, _, hv⟩ => ?_)
          obtain ⟨rfl, _⟩ := hv
          simp only [Act.put, List.setIfInBounds_toArray, List.set_cons_zero, List.set_cons_succ]
          refine rel_val _ rfl rfl (fun _ _ => rfl) (fun _ => ?_)
          simp only [Act.put, List.setIfInBounds_toArray, List.set_cons_zero, List.set_cons_succ]
          refine rel_read id (.slice (some ⟨lo0, 0, none⟩) 0 0) rfl (by simp [readBy, Op.operands, Act.eval]; rfl) rfl (fun w9 _ => by
            have h := run_append_room_cells (P := Tryd.prog) (w := w9) 34 34 69 i0 Tryd.underlying34 hi lo0 0 0 0 ⟨b, 0, none⟩ 0 cap [] (by simp) (fun j u hj => by simp at hj) (fun u hu => by simp at hu) (by omega) (fun j hj => by simp at hj) (fun j hj => by simp at hj)
            have e0 : w9.setCells lo0 (0 + 0 * i0.size) [] = w9 := rfl
            rw [e0] at h
            unfold execOp
            simp [resolve, invoke, builtin, Act.eval, h, Result.andThen]) (fun _ => ?_)
          simp only [Act.put, List.setIfInBounds_toArray, List.set_cons_zero, List.set_cons_succ]
          refine rel_load 69 _ rfl nb 0 rfl #[.int .i16 (m : Int), .int .i16 x, .int .i8 0] _ rfl rfl (fun w' hw' => (hw'.at 1 rfl).whole) Tryd.underlying69 rfl (by kernel_rfl) (fun _ => ?_)
          simp only [Act.put, List.setIfInBounds_toArray, List.set_cons_zero, List.set_cons_succ]
          refine rel_runP _ rfl rfl (fun w9 _ => ⟨.slice (some ⟨w9.heap.size, 0, none⟩) 1 1, w9.alloc (.cells #[.int .i16 (m : Int), .int .i16 x, .int .i8 0] 69), by simp [execOp, Act.eval, go_sem], (Below.refl _ _).alloc (Nat.le_refl _) _, fun w8 hb8 => ⟨rfl, (Blk.new w9 #[.int .i16 (m : Int), .int .i16 x, .int .i8 0] 69).later hb8⟩⟩) (fun v4 lo4 hi4 _ ⟨_, _, hv4⟩ => ?_)
          obtain ⟨rfl, _⟩ := hv4
          simp only [Act.put, List.setIfInBounds_toArray, List.set_cons_zero, List.set_cons_succ]
          refine rel_nil (fun W6 inv => ?_)
          have M6 := inv.cls
          obtain ⟨g1, _, _, h0⟩ := inv.fact 0 _ rfl
          have B0 := h0.1.2
          obtain ⟨_, _, _, h4⟩ := inv.fact 4 _ rfl
          have B4 := h4.1.2
          have hlo2 : w.heap.size ≤ lo0 := Nat.le_trans M5.below.size g1
          have hO6 : W6.ownsRow w.heap.size 69 3 (.slice (some ⟨lo0, 0, none⟩) 0 0) 0 (scells ksScarecrow 0 F).toList := ⟨rfl, .inr ⟨lo0, 0, #[], rfl, hlo2, B0, Nat.le_refl _, Nat.zero_le _, rfl, rfl⟩⟩
          clear inv h0 h4 g1 M5
          change wpList _ _ _ (_ :: [_, _]) _ _
          go_wp2_with (at_builtin; (refine wpList_append_own _ rfl _ _ 34 rfl w.heap.size 69 i0 (.agg #[.int .i16 0, .int .i16 0, .int .i8 0]) 3 6 Tryd.underlying34 hi hz0 hz1 hz2 rfl (by decide) _ _ _ rfl hO6 ⟨lo4, 0, none⟩ 1 1 [.int .i16 (m : Int), .int .i16 x, .int .i8 0] rfl rfl ?qc2 ?qc3 ?qc4 ?qc5 ?qc6 ?_))
          try (case qc2 =>
            intro j u hj
            (try rw [Addr.add_lit])
            (try rw [Nat.zero_add])
            exact B4.cell (by rw [← Array.getElem?_toList]; exact hj))
          try (case qc3 => first | rfl | exact ⟨rfl, rfl, rfl⟩ | (intro u hu; simp at hu; rcases hu with rfl | rfl | rfl <;> rfl))
          try (case qc4 => first | (unfold maxLen; omega) | omega)
          try (case qc5 => omega)
          try (case qc6 => first | exact M6.below.size | (have := M6.below.size; simp; omega))
          intro v' w1 hown hgrow hnil
          rw [added_cells F 0 (m : Int) x] at hown
          have hb := M6.below.grown hgrow M6.below.size (fun k hk => (hO6.lt k hk).1)
          obtain ⟨p, c', rfl, hSO⟩ := Sown (ks := ksScarecrow) hown
          clear hown hgrow hnil hi hz0 hz1 hz2 hO6
          go_wp2_with fail
          go_ret2
          exact ⟨p, c', rfl, hSO.inS, hSO.sw, hb⟩
        refine wp_region_rel_tail 5 (DL [dP (fun v lo _ w9 => v = .slice (some ⟨lo, 0, none⟩) 0 0), dV (.slice (some ⟨b, 0, none⟩) n cap), dP (fun v lo _ w9 => w9.ownsRow lo 69 3 v n (scells ksScarecrow n F).toList), dV (.agg #[.int .i16 (m : Int), .int .i16 x, .int .i8 0]), dP (fun v lo _ w9 => v = .slice (some ⟨lo, 0, none⟩) 1 1 ∧ Blk w9 lo #[.int .i16 (m : Int), .int .i16 x, .int .i8 0] 69)]) (fun w' => Mem w w' [⟨w.heap.size, fcells f, 32⟩, ⟨nb, #[.int .i16 (m : Int), .int .i16 x, .int .i8 0], 69⟩]) (by kernel_rfl) (by kernel_rfl) grows_mem
          (stays_DL (fun d hd => by
            simp only [List.mem_cons, List.mem_nil_iff, or_false] at hd
            rcases hd with rfl | rfl | rfl | rfl | rfl <;> first | exact stay_V | exact stay_P)) M5.drew ?_
        refine rel_runP _ rfl rfl (fun w9 _ => ⟨.slice (some ⟨w9.heap.size, 0, none⟩) 0 0, w9.alloc (.cells #[] 69), by simp [execOp, go_sem], (Below.refl _ _).alloc (Nat.le_refl _) _, fun _ _ => rfl⟩) (fun v lo0 hi0 _ ⟨_, _, hv⟩ => ?_)
        subst hv
        simp only [Act.put, List.setIfInBounds_toArray, List.set_cons_zero, List.set_cons_succ]
        refine rel_val _ rfl rfl (fun _ _ => rfl) (fun _ => ?_)
        simp only [Act.put, List.setIfInBounds_toArray, List.set_cons_zero, List.set_cons_succ]
        refine rel_append_new _ _ 34 rfl 69 i0 (.agg #[.int .i16 0, .int .i16 0, .int .i8 0]) 3 6 Tryd.underlying34 hi hz0 hz1 hz2 rfl (by decide) ⟨lo0, 0, none⟩ rfl ⟨b, 0, none⟩ n cap (scells ksScarecrow n F).toList rfl (Slen _ _ _) (fun w9 h9 => Snews (by decide) (HI.out.later h9.below)) hpos (by unfold maxLen; omega) (by omega) rfl rfl (fun v2 lo2 hi2 _ _ => ?_)
        simp only [Act.put, List.setIfInBounds_toArray, List.set_cons_zero, List.set_cons_succ]
        refine rel_load 69 _ rfl nb 0 rfl #[.int .i16 (m : Int), .int .i16 x, .int .i8 0] _ rfl rfl (fun w' hw' => (hw'.at 1 rfl).whole) Tryd.underlying69 rfl (by kernel_rfl) (fun _ => ?_)
        simp only [Act.put, List.setIfInBounds_toArray, List.set_cons_zero, List.set_cons_succ]
        refine rel_runP _ rfl rfl (fun w9 _ => ⟨.slice (some ⟨w9.heap.size, 0, none⟩) 1 1, w9.alloc (.cells #[.int .i16 (m : Int), .int .i16 x, .int .i8 0] 69), by simp [execOp, Act.eval, go_sem], (Below.refl _ _).alloc (Nat.le_refl _) _, fun w8 hb8 => ⟨rfl, (Blk.new w9 #[.int .i16 (m : Int), .int .i16 x, .int .i8 0] 69).later hb8⟩⟩) (fun v4 lo4 hi4 _ ⟨_, _, hv4⟩ => ?_)
        obtain ⟨rfl, _⟩ := hv4
        simp only [Act.put, List.setIfInBounds_toArray, List.set_cons_zero, List.set_cons_succ]
        refine rel_nil (fun W6 inv => ?_)
        have M6 := inv.cls
        obtain ⟨g1, _, _, hO2⟩ := inv.fact 2 _ rfl
        obtain ⟨_, _, _, h4⟩ := inv.fact 4 _ rfl
        have B4 := h4.1.2
        have hlo2 : w.heap.size ≤ lo2 := Nat.le_trans M5.below.size g1
        have hO6 := hO2.1.mono hlo2
        clear inv hO2 h4 g1 M5
        change wpList _ _ _ (_ :: [_, _]) _ _
        go_wp2_with (at_builtin; (refine wpList_append_own _ rfl _ _ 34 rfl w.heap.size 69 i0 (.agg #[.int .i16 0, .int .i16 0, .int .i8 0]) 3 6 Tryd.underlying34 hi hz0 hz1 hz2 rfl (by decide) _ _ _ rfl hO6 ⟨lo4, 0, none⟩ 1 1 [.int .i16 (m : Int), .int .i16 x, .int .i8 0] rfl rfl ?rc2 ?rc3 ?rc4 ?rc5 ?rc6 ?_))
        try (case rc2 =>
          intro j u hj
          (try rw [Addr.add_lit])
          (try rw [Nat.zero_add])
          exact B4.cell (by rw [← Array.getElem?_toList]; exact hj))
        try (case rc3 => first | rfl | exact ⟨rfl, rfl, rfl⟩ | (intro u hu; simp at hu; rcases hu with rfl | rfl | rfl <;> rfl))
        try (case rc4 => first | (unfold maxLen; omega) | omega)
        try (case rc5 => omega)
        try (case rc6 => first | exact M6.below.size | (have := M6.below.size; simp; omega))
        intro v' w1 hown hgrow hnil
        rw [added_cells F n (m : Int) x] at hown
        have hb := M6.below.grown hgrow M6.below.size (fun k hk => (hO6.lt k hk).1)
        obtain ⟨p, c', rfl, hSO⟩ := Sown (ks := ksScarecrow) hown
        clear hown hgrow hnil hi hz0 hz1 hz2 hO6
        go_wp2_with fail
        go_ret2
        exact ⟨p, c', rfl, hSO.inS, hSO.sw, hb⟩
end
end Go.Proofs.YtpplakfmdjajiaaDoor
