/-
  The fear of a cell: FearOf: the model's, the program's.
-/
import Derived.Test.YteclngooblafoaaDoorMost
import Derived.Test.YteclngooblafoaaDoorScrV
import Derived.Test.YteclngooblafoaaDoorChkN
namespace Go.Proofs.YteclngooblafoaaDoor
open Go Go.RowKit

/-- The code of a field and scarecrows, and of whether all numbers are as told. -/
def askCode (f : Fd) (n : Nat) (F : Nat → Nat → Int) (fine : Bool) : Int := if okScares f n F then (if fine then 0 else 2) else 1
theorem ask_no {f : Fd} {n : Nat} {F : Nat → Nat → Int} {fine : Bool} (h : okScares f n F = false) : askCode f n F fine = 1 := by unfold askCode; rw [h]; rfl
theorem ask_bad {f : Fd} {n : Nat} {F : Nat → Nat → Int} {fine : Bool} (h : okScares f n F = true) (h2 : fine = false) : askCode f n F fine = 2 := by unfold askCode; rw [h, h2]; rfl
theorem ask_ok {f : Fd} {n : Nat} {F : Nat → Nat → Int} {fine : Bool} (h : okScares f n F = true) (h2 : fine = true) : askCode f n F fine = 0 := by unfold askCode; rw [h, h2]; rfl
theorem okS_field {f : Fd} {n : Nat} {F : Nat → Nat → Int} (h : okScares f n F = true) : okF f = true ∧ (∀ i, i < n → shapeOk (F i) = true) ∧ n ≤ 20 := by
  unfold okScares at h
  simp only [Bool.and_eq_true, decide_eq_true_eq] at h
  refine ⟨h.1.1, fun i hi => ?_, h.2⟩
  have := (allTo_iff.1 h.1.2) i hi
  unfold scareOk at this
  simp only [Bool.and_eq_true] at this
  exact this.1.1
theorem cell_in {f : Fd} {c : Int} (h : isCell f c = true) : 0 ≤ c ∧ c ≤ 99 := by
  simp only [isCell, Bool.and_eq_true, inB_iff] at h
  exact h.1.1
def fearVal (f : Fd) (n : Nat) (F : Nat → Nat → Int) (c : Int) : Int := if okScares f n F && isCell f c then fearTo F c n else 0
theorem fearVal_yes {f : Fd} {n : Nat} {F : Nat → Nat → Int} {c : Int} (h : okScares f n F = true) (h2 : isCell f c = true) : fearVal f n F c = fearTo F c n := by unfold fearVal; rw [h, h2]; rfl
theorem fearVal_no {f : Fd} {n : Nat} {F : Nat → Nat → Int} {c : Int} (h : okScares f n F = false) : fearVal f n F c = 0 := by unfold fearVal; rw [h]; rfl
theorem fearVal_bad {f : Fd} {n : Nat} {F : Nat → Nat → Int} {c : Int} (h : isCell f c = false) : fearVal f n F c = 0 := by unfold fearVal; rw [h, Bool.and_false]; rfl
theorem l03Asked_any (f : Fd) (hf : f.Wf) (n : Nat) (hn : n ≤ 2 ^ 40) (F : Nat → Nat → Int) (hF : WfS ksScarecrow n F) (fine : Bool) (b d c : Nat) (w : World) (B : Blk w b (fcells f) 33) (I : InS w d 0 n ksScarecrow F) :
    Calls Tryd.prog 32 #[.pointer (some ⟨b, 0, none⟩), .slice (some ⟨d, 0, none⟩) n c, .bool fine] w fun e w' => e = .returned (.int .i64 (askCode f n F fine)) ∧ Below w.heap.size w w' := by
  cases hs : okScares f n F with
  | false =>
    rw [ask_no hs]
    go_enter Tryd.func32, Tryd.ntmps32
    go_wp2_with (go_at_call 60; refine (l03Ok_any f hf n hn F hF b d c w B I).mono ?_; rintro e w1 ⟨rfl, hb⟩; rw [hs])
    go_ret
    exact ⟨rfl, hb⟩
  | true =>
    cases fine with
    | false =>
      rw [ask_bad hs rfl]
      go_enter Tryd.func32, Tryd.ntmps32
      go_wp2_with (go_at_call 60; refine (l03Ok_any f hf n hn F hF b d c w B I).mono ?_; rintro e w1 ⟨rfl, hb⟩; rw [hs])
      go_ret
      exact ⟨rfl, hb⟩
    | true =>
      rw [ask_ok hs rfl]
      go_enter Tryd.func32, Tryd.ntmps32
      go_wp2_with (go_at_call 60; refine (l03Ok_any f hf n hn F hF b d c w B I).mono ?_; rintro e w1 ⟨rfl, hb⟩; rw [hs])
      go_ret
      exact ⟨rfl, hb⟩
set_option maxRecDepth 100000 in
set_option maxHeartbeats 2000000 in
theorem fear1_any (n : Nat) (hn : n ≤ 2 ^ 40) (F : Nat → Nat → Int) (hF : ∀ i, i < n → WfT (F i)) (hS : ∀ i, i < n → shapeOk (F i) = true) (c : Int) (hc : 0 ≤ c ∧ c ≤ 99) (d cap pb : Nat) (w : World)
    (B : w.cell? ⟨pb, 0, none⟩ = some (.slice (some ⟨d, 0, none⟩) n cap)) (I : InS w d 0 n ksScarecrow F) :
    Calls Tryd.prog 80 #[.int .i64 c, .pointer (some ⟨pb, 0, none⟩)] w fun e w' => e = .returned (.int .i64 (fearTo F c n)) ∧ Below w.heap.size w w' := by
  have HB := Lib.hid B
  have HI := Lib.hid I
  have HF := Lib.hid hF
  have HS := Lib.hid hS
  clear B I hF hS
  go_enter Tryd.func80, Tryd.ntmps80
  go_upto_region 1 with (fail)
  obtain ⟨W, hW, M⟩ := open1 w #[.int .i64 c] 2
  rw [hW]; clear hW
  have hpb := cell_later HB.out M.below
  go_wp2_with (first
    | (go_at_call 82; refine (values_any n cap d _).mono ?_; rintro e W2 ⟨rfl, rfl⟩; have M2 := M.alloc #[.slice (some ⟨d, 0, none⟩) n cap] 44)
    | (go_at_call 81; refine (mostOf_any n hn F HF.out HS.out c hc d cap W.heap.size w.heap.size _ ((M2.at 1 rfl).cell (i := 0) rfl) (HI.out.later M2.below) ((M2.at 0 rfl).cell (i := 0) rfl)).mono ?_; rintro e W3 ⟨a, rfl, hb⟩; have M3 := M2.call hb; clear hpb M2 hb))
  go_ret
  exact ⟨rfl, M3.below.alloc M3.below.size _⟩
theorem fearFrom_any (n cap d : Nat) (w : World) : Calls Tryd.prog 63 #[.slice (some ⟨d, 0, none⟩) n cap] w fun e w' => e = .returned (.func (.func 80) #[] #[.pointer (some ⟨w.heap.size, 0, none⟩)]) ∧ w' = w.alloc (Obj.cells #[.slice (some ⟨d, 0, none⟩) n cap] 44) := by
  go_enter Tryd.func63, Tryd.ntmps63
  go_wp2_with fail
  go_ret
  exact ⟨rfl, rfl⟩
def askErr (A : Nat → Addr) (code : Int) : Value := if code = 0 then .nilIface else errVal (A code.toNat)
set_option maxRecDepth 100000 in
set_option maxHeartbeats 2000000 in
/-- The check of a field, scarecrows and cells (none, or some). -/
theorem checkScares_any (f : Fd) (hf : f.Wf) (n : Nat) (hn : n ≤ 2 ^ 40) (F : Nat → Nat → Int) (hF : WfS ksScarecrow n F) (d cap : Nat) (hcap : n ≤ cap) (m : Nat) (hm : m ≤ 1000) (g : Nat → Int) (hg : ∀ i, i < m → -9223372036854775808 ≤ g i ∧ g i ≤ 9223372036854775807) (q : Option Addr) (c : Nat) (A : Nat → Addr) (w : World) (I : InS w d 0 n ksScarecrow F) (J : InO w q m g) (S0 : Sents w A) :
    Calls Tryd.prog 62 #[.agg (fcells f), .slice (some ⟨d, 0, none⟩) n cap, .slice q m c] w fun e w' => e = .returned (askErr A (askCode f n F (allTo m (fun i => isCell f (g i))))) ∧ Below w.heap.size w w' := by
  have HI := Lib.hid I
  have HJ := Lib.hid J
  have S : Hid (Sents w A) := Lib.hid S0
  clear I J S0
  cases hs : okScares f n F with
  | false =>
    rw [ask_no hs]
    go_enter Tryd.func62, Tryd.ntmps62
    go_upto_region 1 with (fail)
    obtain ⟨W, hW, M⟩ := open1 w (fcells f) 33
    rw [hW]; clear hW
    go_wp2_with (first
      | (refine wpList_load_part rfl 33 _ rfl w.heap.size 0 rfl (fcells f) _ (M.at 0 rfl).whole Tryd.underlying33 rfl (by rw [fcells_size]; exact sizeFd) ?_)
      | (go_at_call 78; refine (implValidScares f hf n hn F hF d cap hcap A _ (S.out.later M.below).two (HI.out.later M.below)).mono ?_; rintro e W2 ⟨rfl, hb⟩; rw [hs]; have M2 := M.call hb; have hv1 := (S.out.later M2.below).v1; clear M hb; go_wp2_with fail))
    go_ret
    exact ⟨rfl, M2.below⟩
  | true =>
    have hok := (okS_field hs).1
    have hk : Hid (errIf A 2 (allTo m (fun i => isCell f (g i))) = askErr A (askCode f n F (allTo m (fun i => isCell f (g i))))) := Lib.hid (by
      cases hq : allTo m (fun i => isCell f (g i)) with
      | false => rw [ask_bad hs rfl]; rfl
      | true => rw [ask_ok hs rfl]; rfl)
    rw [← hk.out]
    clear hk
    obtain ⟨ev, hev⟩ : ∃ ev, errIf A 2 (allTo m (fun i => isCell f (g i))) = ev := ⟨_, rfl⟩
    have HEV := Lib.hid hev
    rw [hev]
    clear hev
    go_enter Tryd.func62, Tryd.ntmps62
    go_upto_region 1 with (fail)
    obtain ⟨W, hW, M⟩ := open1 w (fcells f) 33
    rw [hW]; clear hW
    go_upto_region 3 with (first
      | (refine wpList_load_part rfl 33 _ rfl w.heap.size 0 rfl (fcells f) _ (M.at 0 rfl).whole Tryd.underlying33 rfl (by rw [fcells_size]; exact sizeFd) ?_)
      | (go_at_call 78; refine (implValidScares f hf n hn F hF d cap hcap A _ (S.out.later M.below).two (HI.out.later M.below)).mono ?_; rintro e W2 ⟨rfl, hb⟩; rw [hs]; have M2 := M.call hb; clear M hb))
    go_wp2_with (first
      | (refine wpList_load_part rfl 33 _ rfl w.heap.size 0 rfl (fcells f) _ (M2.at 0 rfl).whole Tryd.underlying33 rfl (by rw [fcells_size]; exact sizeFd) ?_)
      | (go_at_call 79; refine (checkCells_O f hf hok m (by omega) g hg A q c _ (HJ.out.later M2.below) (S.out.later M2.below)).mono ?_; rintro e W3 ⟨rfl, hb⟩; rw [HEV.out]; have M3 := M2.call hb; clear M2 hb))
    go_ret
    exact ⟨rfl, M3.below⟩
theorem one_O {w : World} {b : Nat} {c : Int} {t : TypeId} (B : Blk w b #[.int .i64 c] t) : InO w (some ⟨b, 0, none⟩) 1 (fun _ => c) := .inr ⟨b, rfl, fun i hi => by
  obtain rfl : i = 0 := by omega
  exact B.cell rfl⟩
theorem ask_one (f : Fd) (n : Nat) (F : Nat → Nat → Int) (c : Int) : askCode f n F (allTo 1 (fun _ => isCell f c)) = askCode f n F (isCell f c) := by
  congr 1
  simp [allTo]
theorem ask_cases (f : Fd) (n : Nat) (F : Nat → Nat → Int) (b : Bool) : (askCode f n F b = 0 ∧ okScares f n F = true ∧ b = true) ∨ (askCode f n F b = 1 ∧ okScares f n F = false) ∨ (askCode f n F b = 2 ∧ b = false) := by
  cases hs : okScares f n F with
  | false => exact .inr (.inl ⟨ask_no hs, rfl⟩)
  | true =>
    cases b with
    | false => exact .inr (.inr ⟨ask_bad hs rfl, rfl⟩)
    | true => exact .inl ⟨ask_ok hs rfl, rfl, rfl⟩
end Go.Proofs.YteclngooblafoaaDoor
