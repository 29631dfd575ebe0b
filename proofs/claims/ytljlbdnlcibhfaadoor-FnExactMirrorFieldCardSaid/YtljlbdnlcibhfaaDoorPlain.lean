/-
  PlainField: the model's, the program's.
-/
import Derived.Test.YtljlbdnlcibhfaaDoorAt
import Derived.Test.YtljlbdnlcibhfaaDoorRow
import Derived.Test.YtljlbdnlcibhfaaDoorIn
import Derived.Test.YtljlbdnlcibhfaaDoorValid
import Derived.BigRegionIn
namespace Go.Proofs.YtljlbdnlcibhfaaDoor
open Go Go.RowKit Go.Shelf
attribute [local go_sem] Oper.semAt_some

theorem wpList_build {P : Program} {ops : Array Oper} {Q : Exit → Act → World → Prop} {rest : List Oper} {op : Oper} {a : Act} {w : World} (hgd : op.guard = none) (t : TypeId) (parts : Array (Nat × Operand)) (ho : op.op = .build t parts)
    (ps : Array (Nat × Value)) (hp : parts.map (fun (i, x) => (i, a.eval x)) = ps) (v : Value) (hr : (Instr.build t ps).run P w = .ok v w)
    (h : wpList P ops Q rest (a.put op.dst v) w) : wpList P ops Q (op :: rest) a w := by
  refine wpList_run hgd ?_ h
  unfold execOp
  simp only [ho, hp, Sem.run_bind, hr, Result.andThen_ok, Sem.run_pure]
def plainTo (a b s : Int) (k : Nat) : Fd := ⟨a, b, fun _ => 0, fun i => if i < k ∧ isCell (Fd.bare a b) i = true then s else 0⟩
def plainOk3 (a b s : Int) : Bool := inB a 1 10 && inB b 1 10 && inB s 0 1000
def plainField (a b s : Int) : Fd := if plainOk3 a b s then plainTo a b s 100 else Fd.zero
def plainCode (a b s : Int) : Int := if plainOk3 a b s then 0 else 2
theorem plainTo_zero (a b s : Int) : fcells (Fd.bare a b) = fcells (plainTo a b s 0) := fcells_congr rfl rfl (fun i _ => rfl) (fun i _ => by simp [plainTo, Fd.bare])
theorem plainTo_yes {a b s : Int} {k : Nat} (h : isCell (Fd.bare a b) k = true) : fcells ((plainTo a b s k).setS k s) = fcells (plainTo a b s (k + 1)) :=
  fcells_congr rfl rfl (fun i _ => rfl) (fun i _ => by
    simp only [plainTo, Fd.setS]
    by_cases e : i = k
    · subst e; simp [h]
    · rw [if_neg e]
      have e1 : (i < k + 1 ∧ isCell (Fd.bare a b) i = true) ↔ (i < k ∧ isCell (Fd.bare a b) i = true) := by constructor <;> (rintro ⟨x, y⟩; exact ⟨by omega, y⟩)
      simp only [e1])
theorem plainTo_no {a b s : Int} {k : Nat} (h : isCell (Fd.bare a b) k = false) : fcells (plainTo a b s k) = fcells (plainTo a b s (k + 1)) :=
  fcells_congr rfl rfl (fun i _ => rfl) (fun i _ => by
    simp only [plainTo]
    by_cases e : i = k
    · subst e; simp [h]
    · have e1 : (i < k + 1 ∧ isCell (Fd.bare a b) i = true) ↔ (i < k ∧ isCell (Fd.bare a b) i = true) := by constructor <;> (rintro ⟨x, y⟩; exact ⟨by omega, y⟩)
      simp only [e1])

set_option maxRecDepth 100000 in
set_option maxHeartbeats 2000000 in
theorem specPlainField (a b s : Int) (ha1 : -9223372036854775808 ≤ a) (ha2 : a ≤ 9223372036854775807) (hb1 : -9223372036854775808 ≤ b) (hb2 : b ≤ 9223372036854775807) (hs1 : -9223372036854775808 ≤ s) (hs2 : s ≤ 9223372036854775807) (w : World) : Calls Tryd.prog 9 #[.int .i64 a, .int .i64 b, .int .i64 s] w fun e w' => e = .returned (.tuple #[.agg (fcells (plainField a b s)), .int .i64 (plainCode a b s)]) ∧ Below w.heap.size w w' := by
  have hz : Hid (Tryd.zeroCells27.size = 202) := Lib.hid (by rw [zeroFd, fcells_size])
  have hz1 : Hid (Tryd.zeroCells27.all (·.oneCell') = true) := Lib.hid (by rw [zeroFd]; exact fcells_one _)
  have ok1 : True := trivial
  have ok2 : True := trivial
  unfold plainField plainCode
  cases q1 : inB a 1 10 with
  | false =>
    have hr : plainOk3 a b s = false := by simp [plainOk3, q1]
    simp only [hr, Bool.false_eq_true, if_false]; clear hr
    go_enter Tryd.func9, Tryd.ntmps9
    go_upto_region 1 with (fail)
    obtain ⟨W, hW, M⟩ := open1 w Tryd.zeroCells27 27
    rw [hW]; clear hW
    go_wp2_with (first
      | (clear ok1; go_at_call 26; refine (l00In_any a _ _ _).mono ?_; rintro e w' ⟨rfl, rfl⟩; rw [q1])
      | (refine wpList_store_row rfl 27 _ _ rfl w.heap.size Tryd.zeroCells27 rfl rfl 27 _ (M.at 0 rfl) (by rw [hz.out]; exact sizeFd) (by rw [hz.out]) hz1.out ?_))
    have M4 := M.row 0 rfl Tryd.zeroCells27
    exact bodyPost_ret (results_row_tmp rfl _ _ (w.heap.size) 27 _ _ _ rfl (M4.at 0 rfl) Tryd.underlying27 rfl (by rw [hz.out]; exact sizeFd)) rfl ⟨by rw [zeroFd]; rfl, M4.below⟩
  | true =>
    cases q2 : inB b 1 10 with
    | false =>
      have hr : plainOk3 a b s = false := by simp [plainOk3, q2]
      simp only [hr, Bool.false_eq_true, if_false]; clear hr
      go_enter Tryd.func9, Tryd.ntmps9
      go_upto_region 1 with (fail)
      obtain ⟨W, hW, M⟩ := open1 w Tryd.zeroCells27 27
      rw [hW]; clear hW
      go_wp2_with (first
        | (clear ok1; go_at_call 26; refine (l00In_any a _ _ _).mono ?_; rintro e w' ⟨rfl, rfl⟩; rw [q1])
        | (clear ok2; go_at_call 26; refine (l00In_any b _ _ _).mono ?_; rintro e w' ⟨rfl, rfl⟩; rw [q2])
        | (refine wpList_store_row rfl 27 _ _ rfl w.heap.size Tryd.zeroCells27 rfl rfl 27 _ (M.at 0 rfl) (by rw [hz.out]; exact sizeFd) (by rw [hz.out]) hz1.out ?_))
      have M4 := M.row 0 rfl Tryd.zeroCells27
      exact bodyPost_ret (results_row_tmp rfl _ _ (w.heap.size) 27 _ _ _ rfl (M4.at 0 rfl) Tryd.underlying27 rfl (by rw [hz.out]; exact sizeFd)) rfl ⟨by rw [zeroFd]; rfl, M4.below⟩
    | true =>
      cases q3 : inB s 0 1000 with
      | false =>
        have hr : plainOk3 a b s = false := by simp [plainOk3, q3]
        simp only [hr, Bool.false_eq_true, if_false]; clear hr
        go_enter Tryd.func9, Tryd.ntmps9
        go_upto_region 1 with (fail)
        obtain ⟨W, hW, M⟩ := open1 w Tryd.zeroCells27 27
        rw [hW]; clear hW
        go_wp2_with (first
          | (clear ok1; go_at_call 26; refine (l00In_any a _ _ _).mono ?_; rintro e w' ⟨rfl, rfl⟩; rw [q1])
          | (clear ok2; go_at_call 26; refine (l00In_any b _ _ _).mono ?_; rintro e w' ⟨rfl, rfl⟩; rw [q2])
          | (go_at_call 27; refine (l01Seeds_any s _).mono ?_; rintro e w' ⟨rfl, rfl⟩; rw [q3])
          | (refine wpList_store_row rfl 27 _ _ rfl w.heap.size Tryd.zeroCells27 rfl rfl 27 _ (M.at 0 rfl) (by rw [hz.out]; exact sizeFd) (by rw [hz.out]) hz1.out ?_))
        have M4 := M.row 0 rfl Tryd.zeroCells27
        exact bodyPost_ret (results_row_tmp rfl _ _ (w.heap.size) 27 _ _ _ rfl (M4.at 0 rfl) Tryd.underlying27 rfl (by rw [hz.out]; exact sizeFd)) rfl ⟨by rw [zeroFd]; rfl, M4.below⟩
      | true =>
        have hr : plainOk3 a b s = true := by simp [plainOk3, q1, q2, q3]
        simp only [hr, if_true]; clear hr
        obtain ⟨h1, h2⟩ := inB_iff.1 q1
        obtain ⟨h3, h4⟩ := inB_iff.1 q2
        obtain ⟨h5, h6⟩ := inB_iff.1 q3
        go_enter Tryd.func9, Tryd.ntmps9
        go_upto_region 1 with (fail)
        obtain ⟨W, hW, M⟩ := open1 w Tryd.zeroCells27 27
        rw [hW]; clear hW
        have hr8 : (-128 ≤ (plainTo a b s 0).W ∧ (plainTo a b s 0).W ≤ 127) ∧ (-128 ≤ (plainTo a b s 0).H ∧ (plainTo a b s 0).H ≤ 127) := ⟨⟨by show -128 ≤ a; omega, by show a ≤ 127; omega⟩, ⟨by show -128 ≤ b; omega, by show b ≤ 127; omega⟩⟩
        have H8 := Lib.hid hr8
        clear hr8
        go_upto_region 4 with (first
          | (clear ok1; go_at_call 26; refine (l00In_any a _ _ _).mono ?_; rintro e w' ⟨rfl, rfl⟩; rw [q1])
          | (clear ok2; go_at_call 26; refine (l00In_any b _ _ _).mono ?_; rintro e w' ⟨rfl, rfl⟩; rw [q2])
          | (go_at_call 27; refine (l01Seeds_any s _).mono ?_; rintro e w' ⟨rfl, rfl⟩; rw [q3])
          | (refine wpList_build rfl 27 _ rfl #[(0, .int .i8 a), (1, .int .i8 b)] rfl (.agg (fcells (Fd.bare a b))) (by kernel_rfl) ?_)
          | (refine wpList_store_row rfl 27 _ _ rfl W.heap.size (fcells (Fd.bare a b)) rfl rfl 27 _ ((M.alloc Tryd.zeroCells27 27).at 1 rfl) (by rw [fcells_size]; exact sizeFd) (by rw [hz.out, fcells_size]) (fcells_one _) ?_))
        have M3 := (M.alloc Tryd.zeroCells27 27).row 1 rfl (fcells (Fd.bare a b))
        rw [plainTo_zero a b s] at M3 ⊢
        obtain ⟨ob, hob⟩ : ∃ ob, ob = W.heap.size := ⟨_, rfl⟩
        rw [← hob] at M3 ⊢
        clear hob
        generalize World.setRow _ _ _ = W3 at M3 ⊢
        have M3' : Mem w W3 [⟨w.heap.size, Tryd.zeroCells27, 27⟩, ⟨ob, fcells (plainTo a b s 0), 27⟩] := M3
        clear M M3
        go_wp2_with fail
        go_loopw [9] (fun i wr => ∃ k : Nat, k ≤ 100 ∧ i = .int .i64 k ∧ Hid (Mem w wr [⟨w.heap.size, Tryd.zeroCells27, 27⟩, ⟨ob, fcells (plainTo a b s k), 27⟩])) (fun i _ => 100 - (intOf i).toNat)
        case atStart => exact ⟨0, by omega, rfl, Lib.hid M3'⟩
        case round =>
          clear M3'
          obtain ⟨k, hk, rfl, hM⟩ := hrel
          by_cases hlt : k < 100
          · cases hc : isCell (Fd.bare a b) k with
            | true =>
              have cS := (hM.out.at 1 rfl).cell (fcells_S (plainTo a b s k) k hlt)
              have eS := (hM.out.at 1 rfl).free (102 + k)
              have M4 := Lib.hid (hM.out.set 1 (102 + k) (.int .i16 s) rfl _ ((fcells_setS (plainTo a b s k) k s hlt).trans (plainTo_yes hc)))
              go_wp2_with (go_at_call 28; refine (l01Is_any (plainTo a b s k) k ob _ H8.out.1 H8.out.2 (hM.out.at 1 rfl)).mono ?_; rintro e w' ⟨rfl, rfl⟩; rw [show isCell (plainTo a b s k) k = true from hc])
              go_roundw
              case rel => exact ⟨k + 1, by omega, by go_num, M4⟩
              case measure => simp [intOf]; omega
            | false =>
              go_wp2_with (go_at_call 28; refine (l01Is_any (plainTo a b s k) k ob _ H8.out.1 H8.out.2 (hM.out.at 1 rfl)).mono ?_; rintro e w' ⟨rfl, rfl⟩; rw [show isCell (plainTo a b s k) k = false from hc])
              go_roundw
              case rel => exact ⟨k + 1, by omega, by go_num, by rw [← plainTo_no hc]; exact hM⟩
              case measure => simp [intOf]; omega
          · obtain rfl : k = 100 := by omega
            have M5 := hM.out.row 0 rfl (fcells (plainTo a b s 100))
            go_wp2_with (first
              | (refine wpList_load_part rfl 27 _ rfl ob 0 rfl (fcells (plainTo a b s 100)) _ (hM.out.at 1 rfl).whole Tryd.underlying27 rfl (by rw [fcells_size]; exact sizeFd) ?_)
              | (refine wpList_store_row rfl 27 _ _ rfl w.heap.size (fcells (plainTo a b s 100)) rfl rfl 27 _ (hM.out.at 0 rfl) (by rw [fcells_size]; exact sizeFd) (by rw [hz.out, fcells_size]) (fcells_one _) ?_))
            exact bodyPost_ret (results_row_tmp rfl _ _ w.heap.size 27 _ _ _ rfl (M5.at 0 rfl) Tryd.underlying27 rfl (by rw [fcells_size]; exact sizeFd)) rfl ⟨rfl, M5.below⟩
end Go.Proofs.YtljlbdnlcibhfaaDoor
