import Derived.Test.YtaioflkonpommaaDoorChkB
import Derived.Test.YtaioflkonpommaaDoorFlkM
import Derived.Test.YtaioflkonpommaaDoorMvF
import Derived.Test.YtaioflkonpommaaDoorVisIn
import Derived.Test.YtaioflkonpommaaDoorLstM
import Derived.Test.YtaioflkonpommaaDoorCoreD
namespace Go.Proofs.YtaioflkonpommaaDoor
open Go Go.ChangeShapes Go.WideShapes Go.ChangeAt Go.RowKit Go.Shelf

section
variable {P : Program} {ops : Array Oper} {C : World → Prop} {l : List OpD} {Q : Act → Left → Prop} {o : Oper} {rest : List Oper} {k : Nat} {a : Act} {g : Left}
theorem rel_indexQ (κ : IntKind) (t e : TypeId) (x ix : Operand) (ho : o.op = .indexAddr t x ix) (b off n c sz i : Nat) (hx : a.eval x = .slice (some ⟨b, off, none⟩) n c) (hix : a.eval ix = .int κ i) (hi : i < n) (hu : P.underlying t = some (.slice e)) (hsz : (P.info? e).map (·.size) = some sz)
    (hl : l[k]? = some (dV (.pointer (some ⟨b, off + i * sz, none⟩)))) (hw : Region.wanted o (yielded ops a.tmps) = true)
    (h2 : ∀ x, wpRel P ops C (DL l) Q rest (k + 1) (a.put o.dst (.pointer (some ⟨b, off + i * sz, none⟩))) (g.upd k x)) : wpRel P ops C (DL l) Q (o :: rest) k a g :=
  rel_val _ hl hw (fun w _ => by
    have he : P.elem t = e := by simp [Program.elem, hu]
    cases hie : P.info? e with
    | none => simp [hie] at hsz
    | some ie =>
      simp only [hie, Option.map_some, Option.some.injEq] at hsz
      have hr : (Instr.indexAt t (.slice (some ⟨b, off, none⟩) n c) (.int κ (i : Int))).run P w = .ok (.pointer (some ⟨b, off + i * sz, none⟩)) w := by
        rw [run_indexAt_slice _ _ _ _ _ _ _ (by rw [he]; exact hu), if_pos ⟨by omega, by omega⟩, he]
        simp [sizeOf, typeInfo, hie, hsz, Addr.add]
      unfold execOp
      simp only [ho, hx, hix, Sem.run_bind, hr, Result.andThen_ok, Sem.run_pure]) h2
end
abbrev cVis (a : Nat → Int) : Array Value := #[.int .i8 (a 0), .int .i16 (a 1), .int .i16 (a 2)]
def ebA (n m : Nat) (G : Nat → Nat → Int) : Bool := allTo m (fun i => inB (G i 0) 0 ((n : Int) - 1))
def ebB (m : Nat) (G : Nat → Nat → Int) : Bool := allTo m (fun i => decide (0 ≤ G i 2))
def ebS (G : Nat → Nat → Int) : Nat → Nat → Int
  | 0 => fun _ => 0
  | k + 1 => fun j => if j = (G k 0).toNat then ebS G k (G k 0).toNat + G k 2 else ebS G k j
theorem ebS_le {G : Nat → Nat → Int} {n : Nat} (hG : ∀ i, i < n → -32768 ≤ G i 2 ∧ G i 2 ≤ 32767) : ∀ k, k ≤ n → ∀ j, -32768 * (k : Int) ≤ ebS G k j ∧ ebS G k j ≤ 32767 * (k : Int)
  | 0, _, j => ⟨by show _ ≤ (0 : Int); omega, by show (0 : Int) ≤ _; omega⟩
  | k + 1, hk, j => by
    have h1 := ebS_le hG k (by omega) j
    have h2 := ebS_le hG k (by omega) (G k 0).toNat
    have h3 := hG k (by omega)
    show _ ≤ (if j = (G k 0).toNat then ebS G k (G k 0).toNat + G k 2 else ebS G k j) ∧ (if j = (G k 0).toNat then ebS G k (G k 0).toNat + G k 2 else ebS G k j) ≤ _
    split <;> omega
theorem vis_get {b : Nat} {m : Nat} {G : Nat → Nat → Int} {w w' : World} (I : InS w b 0 m ksVisit G) (hb : Below w.heap.size w w') {k : Nat} (hk : k < m) : w'.cell? ⟨b, k * 3, none⟩ = some (.int .i8 (G k 0)) ∧ w'.cell? ⟨b, k * 3 + 1, none⟩ = some (.int .i16 (G k 1)) ∧ w'.cell? ⟨b, k * 3 + 2, none⟩ = some (.int .i16 (G k 2)) := by
  have h : w'.rangeAt b (0 + k * 3) (cVis (G k)).toList := InS.elem (ks := ksVisit) I (by decide) hb hk
  refine ⟨?_, ?_, ?_⟩
  · have := h 0 _ rfl; simpa using this
  · have := h 1 _ rfl; simpa using this
  · have := h 2 _ rfl; simpa using this
theorem load_i8V (b off : Nat) (n : Int) (w : World) (c : w.cell? ⟨b, off, none⟩ = some (.int .i8 n)) : (Instr.loadAt 22 (.pointer (some ⟨b, off, none⟩))).run Tryd.prog w = .ok (.int .i8 n) w := by
  simp [go_sem, c]
theorem load_i16V (b off : Nat) (n : Int) (w : World) (c : w.cell? ⟨b, off, none⟩ = some (.int .i16 n)) : (Instr.loadAt 24 (.pointer (some ⟨b, off, none⟩))).run Tryd.prog w = .ok (.int .i16 n) w := by
  simp [go_sem, c]
theorem load_i64V (b off : Nat) (n : Int) (w : World) (c : w.cell? ⟨b, off, none⟩ = some (.int .i64 n)) : (Instr.loadAt 2 (.pointer (some ⟨b, off, none⟩))).run Tryd.prog w = .ok (.int .i64 n) w := by
  simp [go_sem, c]
theorem wrap_i64V {x : Int} (h1 : -9223372036854775808 ≤ x) (h2 : x ≤ 9223372036854775807) : IntKind.i64.wrap x = x := by rw [IntKind.wrap_i64]; omega
theorem Mem.oneV {w0 w : World} {e1 e2 : Ent} (H : Mem w0 w [e1, e2]) : Mem w0 w [e1] :=
  ⟨H.below, fun i e h => by
    cases i with
    | zero => exact H.blk 0 e h
    | succ i => simp at h, fun i j e1 e2 h1 h2 h => by
    cases i with
    | zero => cases j with
      | zero => exact absurd rfl h
      | succ j => simp at h2
    | succ i => simp at h1⟩

set_option maxRecDepth 100000 in
set_option maxHeartbeats 8000000 in
theorem l02Sums_any (n : Nat) (hn : n ≤ 2 ^ 40) (m : Nat) (hm : m ≤ 2 ^ 40) (G : Nat → Nat → Int) (hG : WfS ksVisit m G) (hA : ebA n m G = true) (b c : Nat) (w : World) (I : InS w b 0 m ksVisit G) :
    Calls Tryd.prog 60 #[.int .i64 n, .slice (some ⟨b, 0, none⟩) m c] w fun e w' => e = .returned (.slice (some ⟨w.heap.size, 0, none⟩) n n) ∧ Mem w w' [⟨w.heap.size, acells .i64 n (ebS G m), 2⟩] := by
  have HI := Lib.hid I
  have HA := Lib.hid hA
  have HG : Hid (∀ i, i < m → -32768 ≤ G i 2 ∧ G i 2 ≤ 32767) := Lib.hid (fun i hi => bounds_i16 (hG i hi 2 (by decide)))
  clear I hA hG
  go_enter Tryd.func60, Tryd.ntmps60
  go_wp2_with (refine wpList_make (BY := 8) rfl 56 2 _ rfl n rfl [.i64] Tryd.underlying56 (by kernel_rfl) (by kernel_rfl) (by omega) (by omega) ?_)
  rw [scells_nums n (fun _ => 0)]
  obtain ⟨W, hW, M⟩ := open1 w (acells .i64 n (fun _ => 0)) 2
  rw [hW]; clear hW
  go_loopw [6] (fun i wr => ∃ k : Nat, k ≤ m ∧ i = .int .i64 k ∧ Mem w wr [⟨w.heap.size, acells .i64 n (ebS G k), 2⟩]) (fun i _ => m - (intOf i).toNat)
  case atStart => exact ⟨0, by omega, rfl, M⟩
  case round =>
    clear M
    obtain ⟨k, hk, rfl, M⟩ := hrel
    by_cases hlt : k < m
    · go_upto_region 5 with (fail)
      have hjq : 0 ≤ G k 0 ∧ G k 0 ≤ (n : Int) - 1 := inB_iff.1 (allTo_iff.1 HA.out k hlt)
      obtain ⟨q, hq⟩ : ∃ q : Nat, G k 0 = (q : Int) := ⟨(G k 0).toNat, by omega⟩
      have hqn : q < n := by omega
      have HQ := Lib.hid hq
      obtain ⟨s1, s2⟩ := ebS_le HG.out k hk q
      obtain ⟨t1, t2⟩ := HG.out k hlt
      have hcv : IntKind.i64.wrap (G k 2) = G k 2 := wrap_i64V (by omega) (by omega)
      have had : IntKind.i64.wrap (ebS G k q + G k 2) = ebS G k q + G k 2 := wrap_i64V (by omega) (by omega)
      clear hjq hq s1 s2 t1 t2
      refine wp_region_rel_tail 16 (DL [dV (.slice (some ⟨w.heap.size, 0, none⟩) n n), dV (.slice (some ⟨b, 0, none⟩) m c), dV (.int .i64 (k : Int)), dV (.pointer (some ⟨b, 0 + k * 3, none⟩)), dV (.pointer (some ⟨b, k * 3, none⟩)), dV (.int .i8 (q : Int)), dV (.pointer (some ⟨w.heap.size, 0 + q * 1, none⟩)), dV (.int .i64 (ebS G k q)), dV (.slice (some ⟨b, 0, none⟩) m c), dV (.int .i64 (k : Int)), dV (.pointer (some ⟨b, 0 + k * 3, none⟩)), dV (.pointer (some ⟨b, k * 3 + 2, none⟩)), dV (.int .i16 (G k 2)), dV (.int .i64 (G k 2)), dV (.int .i64 (ebS G k q + G k 2)), dV (.pointer (some ⟨w.heap.size, 0 + q * 1, none⟩))]) (fun w' => Mem w w' [⟨w.heap.size, acells .i64 n (ebS G k), 2⟩]) (by kernel_rfl) (by kernel_rfl) grows_mem
        (stays_DL (fun d hd => by
          simp only [List.mem_cons, List.mem_nil_iff, or_false] at hd
          rcases hd with rfl | rfl | rfl | rfl | rfl | rfl | rfl | rfl | rfl | rfl | rfl | rfl | rfl | rfl | rfl | rfl <;> exact stay_V)) M.drew ?_
      refine rel_val _ rfl rfl (fun _ _ => rfl) (fun _ => ?_)
      simp only [Act.put, List.setIfInBounds_toArray, List.set_cons_zero, List.set_cons_succ]
      refine rel_val _ rfl rfl (fun _ _ => rfl) (fun _ => ?_)
      simp only [Act.put, List.setIfInBounds_toArray, List.set_cons_zero, List.set_cons_succ]
      refine rel_val _ rfl rfl (fun _ _ => rfl) (fun _ => ?_)
      simp only [Act.put, List.setIfInBounds_toArray, List.set_cons_zero, List.set_cons_succ]
      refine rel_indexQ .i64 43 32 _ _ rfl b 0 m c 3 k rfl rfl hlt Tryd.underlying43 (by kernel_rfl) rfl rfl (fun _ => ?_)
      simp only [Act.put, List.setIfInBounds_toArray, List.set_cons_zero, List.set_cons_succ]
      refine rel_val (.pointer (some ⟨b, k * 3, none⟩)) rfl rfl (fun _ _ => by simp [execOp, Act.eval, go_sem]) (fun _ => ?_)
      simp only [Act.put, List.setIfInBounds_toArray, List.set_cons_zero, List.set_cons_succ]
      refine rel_cell 22 _ rfl (b) (k * 3) rfl (.int .i8 (q : Int)) rfl rfl (fun w' c => load_i8V _ _ _ w' c) (fun w' hw' => by have h := (vis_get HI.out hw'.below hlt).1; rw [HQ.out] at h; exact h) (fun _ => ?_)
      simp only [Act.put, List.setIfInBounds_toArray, List.set_cons_zero, List.set_cons_succ]
      refine rel_indexQ .i8 56 2 _ _ rfl w.heap.size 0 n n 1 q rfl rfl hqn Tryd.underlying56 (by kernel_rfl) rfl rfl (fun _ => ?_)
      simp only [Act.put, List.setIfInBounds_toArray, List.set_cons_zero, List.set_cons_succ]
      refine rel_cell 2 _ rfl (w.heap.size) (0 + q * 1) rfl (.int .i64 (ebS G k q)) rfl rfl (fun w' c => load_i64V _ _ _ w' c) (fun w' hw' => by have h := (hw'.at 0 rfl).cell (acells_get .i64 n (ebS G k) q hqn); simpa using h) (fun _ => ?_)
      simp only [Act.put, List.setIfInBounds_toArray, List.set_cons_zero, List.set_cons_succ]
      refine rel_val _ rfl rfl (fun _ _ => rfl) (fun _ => ?_)
      simp only [Act.put, List.setIfInBounds_toArray, List.set_cons_zero, List.set_cons_succ]
      refine rel_val _ rfl rfl (fun _ _ => rfl) (fun _ => ?_)
      simp only [Act.put, List.setIfInBounds_toArray, List.set_cons_zero, List.set_cons_succ]
      refine rel_indexQ .i64 43 32 _ _ rfl b 0 m c 3 k rfl rfl hlt Tryd.underlying43 (by kernel_rfl) rfl rfl (fun _ => ?_)
      simp only [Act.put, List.setIfInBounds_toArray, List.set_cons_zero, List.set_cons_succ]
      refine rel_val (.pointer (some ⟨b, k * 3 + 2, none⟩)) rfl rfl (fun _ _ => by simp [execOp, Act.eval, go_sem]) (fun _ => ?_)
      simp only [Act.put, List.setIfInBounds_toArray, List.set_cons_zero, List.set_cons_succ]
      refine rel_cell 24 _ rfl (b) (k * 3 + 2) rfl (.int .i16 (G k 2)) rfl rfl (fun w' c => load_i16V _ _ _ w' c) (fun w' hw' => (vis_get HI.out hw'.below hlt).2.2) (fun _ => ?_)
      simp only [Act.put, List.setIfInBounds_toArray, List.set_cons_zero, List.set_cons_succ]
      refine rel_val (.int .i64 (G k 2)) rfl rfl (fun w' _ => by simp [execOp, Act.eval, go_sem, hcv]) (fun _ => ?_)
      simp only [Act.put, List.setIfInBounds_toArray, List.set_cons_zero, List.set_cons_succ]
      refine rel_val (.int .i64 (ebS G k q + G k 2)) rfl rfl (fun w' _ => by simp [execOp, Act.eval, go_sem, had]) (fun _ => ?_)
      simp only [Act.put, List.setIfInBounds_toArray, List.set_cons_zero, List.set_cons_succ]
      refine rel_indexQ .i8 56 2 _ _ rfl w.heap.size 0 n n 1 q rfl rfl hqn Tryd.underlying56 (by kernel_rfl) rfl rfl (fun _ => ?_)
      simp only [Act.put, List.setIfInBounds_toArray, List.set_cons_zero, List.set_cons_succ]
      refine rel_nil (fun W8 inv => ?_)
      have M8 := inv.cls
      clear inv hcv had
      have d6 := (M8.at 0 rfl).cell (acells_get .i64 n (ebS G k) q hqn)
      have f6 := (M8.at 0 rfl).free q
      have M9 := M8.set 0 q (.int .i64 (ebS G k q + G k 2)) rfl _ (acells_set .i64 n (ebS G k) q (ebS G k q + G k 2) hqn)
      have e7 : acells .i64 n (fun j => if j = q then ebS G k q + G k 2 else ebS G k j) = acells .i64 n (ebS G (k + 1)) := by
        show _ = acells .i64 n (fun j => if j = (G k 0).toNat then ebS G k (G k 0).toNat + G k 2 else ebS G k j)
        rw [HQ.out]; rfl
      rw [e7] at M9
      have HM9 : Hid (Mem w (W8.setCell ⟨w.heap.size, q, none⟩ (.int .i64 (ebS G k q + G k 2))) [⟨w.heap.size, acells .i64 n (ebS G (k + 1)), 2⟩]) := Lib.hid M9
      clear M8 M9 e7
      change wpList _ _ _ [_] _ _
      simp only [Nat.zero_add, Nat.mul_one]
      go_wp2_with fail
      go_roundw
      case rel => exact ⟨k + 1, by omega, by go_num, HM9.out⟩
      case measure => simp [intOf]; omega
    · obtain rfl : k = m := by omega
      go_wp2_with fail
      go_ret
      exact ⟨rfl, M⟩
set_option maxRecDepth 100000 in
set_option maxHeartbeats 8000000 in
theorem eatenBy_any (n : Nat) (hn : n ≤ 2 ^ 40) (p0 : Option Addr) (c0 : Nat) (m : Nat) (hm : m ≤ 2 ^ 40) (G : Nat → Nat → Int) (hG : WfS ksVisit m G) (hA : ebA n m G = true) (b c : Nat) (w : World) (I : InS w b 0 m ksVisit G) :
    Calls Tryd.prog 63 #[.slice p0 n c0, .slice (some ⟨b, 0, none⟩) m c] w fun e w' => e = .returned (.slice (some ⟨w.heap.size, 0, none⟩) n n) ∧ Mem w w' [⟨w.heap.size, acells .i64 n (ebS G m), 2⟩] := by
  have HI := Lib.hid I
  have HA := Lib.hid hA
  have HG : Hid (∀ i, i < m → -32768 ≤ G i 2 ∧ G i 2 ≤ 32767) := Lib.hid (fun i hi => bounds_i16 (hG i hi 2 (by decide)))
  clear I hA hG
  go_enter Tryd.func63, Tryd.ntmps63
  go_wp2_with (refine wpList_make (BY := 8) rfl 56 2 _ rfl n rfl [.i64] Tryd.underlying56 (by kernel_rfl) (by kernel_rfl) (by omega) (by omega) ?_)
  rw [scells_nums n (fun _ => 0)]
  obtain ⟨W, hW, M⟩ := open1 w (acells .i64 n (fun _ => 0)) 2
  rw [hW]; clear hW
  go_loopw [13] (fun i wr => ∃ k : Nat, k ≤ m ∧ i = .int .i64 k ∧ Mem w wr [⟨w.heap.size, acells .i64 n (ebS G k), 2⟩]) (fun i _ => m - (intOf i).toNat)
  case atStart => exact ⟨0, by omega, rfl, M⟩
  case round =>
    clear M
    obtain ⟨k, hk, rfl, M⟩ := hrel
    by_cases hlt : k < m
    · have hr : wr.rangeAt b (0 + k * 3) (cVis (G k)).toList := InS.elem (ks := ksVisit) HI.out (by decide) M.below hlt
      rw [Nat.zero_add] at hr
      have hjq : 0 ≤ G k 0 ∧ G k 0 ≤ (n : Int) - 1 := inB_iff.1 (allTo_iff.1 HA.out k hlt)
      obtain ⟨q, hq⟩ : ∃ q : Nat, G k 0 = (q : Int) := ⟨(G k 0).toNat, by omega⟩
      have hqn : q < n := by omega
      have HQ := Lib.hid hq
      obtain ⟨s1, s2⟩ := ebS_le HG.out k hk q
      obtain ⟨t1, t2⟩ := HG.out k hlt
      have hcv : IntKind.i64.wrap (G k 2) = G k 2 := wrap_i64V (by omega) (by omega)
      have had : IntKind.i64.wrap (ebS G k q + G k 2) = ebS G k q + G k 2 := wrap_i64V (by omega) (by omega)
      clear hjq hq s1 s2 t1 t2
      go_upto_region 5 with (refine wpList_load_part rfl 32 _ rfl _ _ rfl (cVis (G k)) _ hr Tryd.underlying32 rfl (by kernel_rfl) ?_)
      have M1 := M.alloc (cVis (G k)) 32
      obtain ⟨eb, heb⟩ : ∃ eb, eb = wr.heap.size := ⟨_, rfl⟩
      rw [← heb] at M1 ⊢
      generalize World.alloc _ _ = W4 at M1 ⊢
      clear M heb hr
      have MD : Mem w W4.drew [⟨w.heap.size, acells .i64 n (ebS G k), 2⟩, ⟨eb, cVis (G k), 32⟩] := M1.drew
      clear M1
      refine wp_region_rel_tail 10 (DL [dV (.slice (some ⟨w.heap.size, 0, none⟩) n n), dV (.pointer (some ⟨eb, 0, none⟩)), dV (.int .i8 (q : Int)), dV (.pointer (some ⟨w.heap.size, 0 + q * 1, none⟩)), dV (.int .i64 (ebS G k q)), dV (.pointer (some ⟨eb, 2, none⟩)), dV (.int .i16 (G k 2)), dV (.int .i64 (G k 2)), dV (.int .i64 (ebS G k q + G k 2)), dV (.pointer (some ⟨w.heap.size, 0 + q * 1, none⟩))]) (fun w' => Mem w w' [⟨w.heap.size, acells .i64 n (ebS G k), 2⟩, ⟨eb, cVis (G k), 32⟩]) (by kernel_rfl) (by kernel_rfl) grows_mem
        (stays_DL (fun d hd => by
          simp only [List.mem_cons, List.mem_nil_iff, or_false] at hd
          rcases hd with rfl | rfl | rfl | rfl | rfl | rfl | rfl | rfl | rfl | rfl <;> exact stay_V)) MD ?_
      refine rel_val _ rfl rfl (fun _ _ => rfl) (fun _ => ?_)
      simp only [Act.put, List.setIfInBounds_toArray, List.set_cons_zero, List.set_cons_succ]
      refine rel_val (.pointer (some ⟨eb, 0, none⟩)) rfl rfl (fun _ _ => by simp [execOp, Act.eval, go_sem]) (fun _ => ?_)
      simp only [Act.put, List.setIfInBounds_toArray, List.set_cons_zero, List.set_cons_succ]
      refine rel_cell 22 _ rfl (eb) (0) rfl (.int .i8 (q : Int)) rfl rfl (fun w' c => load_i8V _ _ _ w' c) (fun w' hw' => by have h := (hw'.at 1 rfl).cell (i := 0) (v := .int .i8 (G k 0)) rfl; rw [HQ.out] at h; exact h) (fun _ => ?_)
      simp only [Act.put, List.setIfInBounds_toArray, List.set_cons_zero, List.set_cons_succ]
      refine rel_indexQ .i8 56 2 _ _ rfl w.heap.size 0 n n 1 q rfl rfl hqn Tryd.underlying56 (by kernel_rfl) rfl rfl (fun _ => ?_)
      simp only [Act.put, List.setIfInBounds_toArray, List.set_cons_zero, List.set_cons_succ]
      refine rel_cell 2 _ rfl (w.heap.size) (0 + q * 1) rfl (.int .i64 (ebS G k q)) rfl rfl (fun w' c => load_i64V _ _ _ w' c) (fun w' hw' => by have h := (hw'.at 0 rfl).cell (acells_get .i64 n (ebS G k) q hqn); simpa using h) (fun _ => ?_)
      simp only [Act.put, List.setIfInBounds_toArray, List.set_cons_zero, List.set_cons_succ]
      refine rel_val (.pointer (some ⟨eb, 2, none⟩)) rfl rfl (fun _ _ => by simp [execOp, Act.eval, go_sem]) (fun _ => ?_)
      simp only [Act.put, List.setIfInBounds_toArray, List.set_cons_zero, List.set_cons_succ]
      refine rel_cell 24 _ rfl (eb) (2) rfl (.int .i16 (G k 2)) rfl rfl (fun w' c => load_i16V _ _ _ w' c) (fun w' hw' => (hw'.at 1 rfl).cell (i := 2) (v := .int .i16 (G k 2)) rfl) (fun _ => ?_)
      simp only [Act.put, List.setIfInBounds_toArray, List.set_cons_zero, List.set_cons_succ]
      refine rel_val (.int .i64 (G k 2)) rfl rfl (fun w' _ => by simp [execOp, Act.eval, go_sem, hcv]) (fun _ => ?_)
      simp only [Act.put, List.setIfInBounds_toArray, List.set_cons_zero, List.set_cons_succ]
      refine rel_val (.int .i64 (ebS G k q + G k 2)) rfl rfl (fun w' _ => by simp [execOp, Act.eval, go_sem, had]) (fun _ => ?_)
      simp only [Act.put, List.setIfInBounds_toArray, List.set_cons_zero, List.set_cons_succ]
      refine rel_indexQ .i8 56 2 _ _ rfl w.heap.size 0 n n 1 q rfl rfl hqn Tryd.underlying56 (by kernel_rfl) rfl rfl (fun _ => ?_)
      simp only [Act.put, List.setIfInBounds_toArray, List.set_cons_zero, List.set_cons_succ]
      refine rel_nil (fun W8 inv => ?_)
      have M8 := inv.cls.oneV
      clear inv hcv had
      have d6 := (M8.at 0 rfl).cell (acells_get .i64 n (ebS G k) q hqn)
      have f6 := (M8.at 0 rfl).free q
      have M9 := M8.set 0 q (.int .i64 (ebS G k q + G k 2)) rfl _ (acells_set .i64 n (ebS G k) q (ebS G k q + G k 2) hqn)
      have e7 : acells .i64 n (fun j => if j = q then ebS G k q + G k 2 else ebS G k j) = acells .i64 n (ebS G (k + 1)) := by
        show _ = acells .i64 n (fun j => if j = (G k 0).toNat then ebS G k (G k 0).toNat + G k 2 else ebS G k j)
        rw [HQ.out]; rfl
      rw [e7] at M9
      have HM9 : Hid (Mem w (W8.setCell ⟨w.heap.size, q, none⟩ (.int .i64 (ebS G k q + G k 2))) [⟨w.heap.size, acells .i64 n (ebS G (k + 1)), 2⟩]) := Lib.hid M9
      clear M8 M9 e7 MD
      change wpList _ _ _ [_] _ _
      simp only [Nat.zero_add, Nat.mul_one]
      go_wp2_with fail
      go_roundw
      case rel => exact ⟨k + 1, by omega, by go_num, HM9.out⟩
      case measure => simp [intOf]; omega
    · obtain rfl : k = m := by omega
      go_wp2_with fail
      go_ret
      exact ⟨rfl, M⟩
end Go.Proofs.YtaioflkonpommaaDoor