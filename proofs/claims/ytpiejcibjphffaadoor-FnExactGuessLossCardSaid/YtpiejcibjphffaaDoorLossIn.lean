/-
  The sum of losses over an iterator of numbers.
-/
import Derived.Test.YtpiejcibjphffaaDoorPairE
import Derived.Test.YtpiejcibjphffaaDoorRegIn
import Derived.Test.YtpiejcibjphffaaDoorRegK
namespace Go.Proofs.YtpiejcibjphffaaDoor
open Go Go.RowKit Go.Shelf
attribute [local go_sem] Oper.semAt_some

def totX {X : Type} (f g : Fd) (val : X → Nat) (l : List X) : Int := l.foldl (fun s c => s + lossN f g (val c)) 0
theorem totX_snoc {X : Type} (f g : Fd) (val : X → Nat) (l : List X) (c : X) : totX f g val (l ++ [c]) = totX f g val l + lossN f g (val c) := by simp [totX, List.foldl_append]
theorem load_w64 (b off : Nat) (n : Int) (w : World) (c : w.cell? ⟨b, off, none⟩ = some (.int .i64 n)) : (Instr.loadAt 2 (.pointer (some ⟨b, off, none⟩))).run Tryd.prog w = .ok (.int .i64 n) w := by
  simp [go_sem, c]
set_option maxRecDepth 100000 in
set_option maxHeartbeats 8000000 in
theorem lossIn_gen {X : Type} (val : X → Nat) (hval : ∀ x, val x < 100) (gf : FuncId) (Bs : Nat) (L : List X) (Pp : List X → Prop) (f g : Fd) (hf : f.Wf) (hg : g.Wf) (hl : ∀ i, i < 100 → -1000 ≤ lossN f g i ∧ lossN f g i ≤ 1000)
    (hent : ∀ (args : Array Value) (w : World), (callFunc gf args).run Tryd.prog w = .ok (.enter gf args) w) (w : World) (hBs : Bs < w.heap.size) (hcl : ∃ cs t, Blk w Bs cs t)
    (hst : ∀ (W : World), Below w.heap.size w W → SeqStopsK Fence.wide 2 Tryd.prog gf #[.pointer (some ⟨Bs, 0, none⟩)] (fun x : X => #[Value.int .i64 (val x : Int)]) (fun W W' => W'.heap[Bs]? = W.heap[Bs]?) (fun ys => ys = L) Pp 100 W) :
    Calls Tryd.prog 41 #[.agg (pcells f g), .func (.func gf) #[] #[.pointer (some ⟨Bs, 0, none⟩)]] w fun e w' => e = .returned (.int .i64 (totX f g val L)) ∧ Below w.heap.size w w' := by
  have hdep : Fence.wide.depth.isSome = false := rfl
  have hfn : ∀ k, Fence.wide.fn k := fun _ => trivial
  have HF := Lib.hid hf
  have HG := Lib.hid hg
  have HL := Lib.hid hl
  have HST := Lib.hid hst
  have HENT := Lib.hid hent
  have HCL := Lib.hid hcl
  clear hf hg hl hst hent hcl
  refine (callsIn_wide (n := 3)).1 ?_
  refine callsIn_of_wp_marks Tryd.func41 rfl trivial ?_ rfl
  simp only [Tryd.ntmps41, List.size_toArray, List.length_cons, List.length_nil, Nat.reduceAdd, Nat.reduceSub, Array.replicate_succ, Array.replicate_zero, List.push_toArray, List.append_toArray, List.nil_append, List.cons_append]
  gi_upto_region 2 with (fail)
  obtain ⟨W, hW, M⟩ := open2 w (pcells f g) 67 #[.int .i64 0] 2
  rw [hW]; clear hW
  gi_wp2
  have hsz : w.heap.size ≤ W.heap.size := M.below.size
  refine wpIn_rangeFunc_ownF rfl (by omega) (gf := gf) (lb := #[.pointer (some ⟨Bs, 0, none⟩)]) rfl trivial HENT.out
    (HST.out W M.below) (fun h k => k.trans h)
    (fun W' l o o' hl ho hc _ => World.putObj_heap_other (fun e => by omega))
    (Below.refl _ _) (fun _ => rfl)
    (fun pre W => Mem w W [⟨w.heap.size, pcells f g, 67⟩, ⟨w.heap.size + 1, #[.int .i64 (totX f g val pre)], 2⟩] ∧ -1000 * pre.length ≤ totX f g val pre ∧ totX f g val pre ≤ 1000 * pre.length)
    (fun _ _ _ => False)
    (fun s A B row hs hg hr => ⟨hs.1.grown hsz hg hr, hs.2⟩)
    (fun c s A B row hs hg hr => hs)
    ⟨M, by simp [totX], by simp [totX]⟩
    (fun x => { tmps := #[.agg (pcells f g), .func (.func gf) #[] #[.pointer (some ⟨Bs, 0, none⟩)], .pointer (some ⟨w.heap.size, 0, none⟩), undef, .int .i64 0, .pointer (some ⟨w.heap.size + 1, 0, none⟩), .int .i64 (val x : Int), .func (.func gf) #[] #[.pointer (some ⟨Bs, 0, none⟩)], .int .i64 (val x : Int), undef, undef, undef, undef, undef, undef], defers := [] }) ?assign ?body ?done ?stop
  case assign =>
    intro l x W K hK
    gi_wp2
    exact hK
  case body =>
    rintro l pre x W6 ⟨M6, hs1, hs2⟩ hlen
    have hfn' : ∀ k, (Fence.wide.inRound l).fn k := fun _ => trivial
    have hdep' : (Fence.wide.inRound l).depth.isSome = false := rfl
    have hr := HL.out (val x) (hval x)
    have hlen' : pre.length < 100 := hlen
    have hw2 : IntKind.i64.wrap (totX f g val pre + lossN f g (val x)) = totX f g val pre + lossN f g (val x) := IntWalk.i64_in _ (by omega)
    have hsn := Lib.hid (totX_snoc f g val pre x)
    gi_wp2
    refine wpIn_region_rel_tail 5 (DL [dV (.int .i64 (totX f g val pre)), dV (.agg (pcells f g)), dV (.int .i64 (val x : Int)), dV (.int .i64 (lossN f g (val x))), dV (.int .i64 (totX f g val pre + lossN f g (val x)))]) (fun w' => Mem w w' [⟨w.heap.size, pcells f g, 67⟩, ⟨w.heap.size + 1, #[.int .i64 (totX f g val pre)], 2⟩] ∧ Below W6.heap.size W6 w') hfn' hdep' (by kernel_rfl) (fun f' args w' R h => CallsIn.inRound l (callsIn_wide.2 h)) (by kernel_rfl) (by kernel_rfl) grows_memB
      (stays_DL (fun d hd => by
        simp only [List.mem_cons, List.mem_nil_iff, or_false] at hd
        rcases hd with rfl | rfl | rfl | rfl | rfl <;> exact stay_V)) ⟨M6.drew, (Below.refl _ _).drew⟩ ?_
    refine rel_cell 2 _ rfl ((w.heap.size + 1)) (0) rfl (.int .i64 (totX f g val pre)) rfl rfl (fun w' c => load_w64 _ _ _ w' c) (fun w' hw' => (hw'.1.at 1 rfl).cell (i := 0) rfl) (fun _ => ?_)
    simp only [Act.put, List.setIfInBounds_toArray, List.set_cons_zero, List.set_cons_succ]
    refine rel_load 67 _ rfl w.heap.size 0 rfl (pcells f g) _ rfl rfl (fun w' hw' => (hw'.1.at 0 rfl).whole) Tryd.underlying67 rfl (by rw [pcells_size]; exact sizeP) (fun _ => ?_)
    simp only [Act.put, List.setIfInBounds_toArray, List.set_cons_zero, List.set_cons_succ]
    refine rel_val _ rfl rfl (fun _ _ => rfl) (fun _ => ?_)
    simp only [Act.put, List.setIfInBounds_toArray, List.set_cons_zero, List.set_cons_succ]
    refine rel_call (.int .i64 (lossN f g (val x))) 39 #[.agg (pcells f g), .int .i64 (val x : Int)] rfl rfl rfl rfl (enters_of Tryd.func39 (by kernel_rfl) rfl) (fun w' _ => loss_any f g HF.out HG.out (val x) (hval x) w') (fun _ => ?_)
    simp only [Act.put, List.setIfInBounds_toArray, List.set_cons_zero, List.set_cons_succ]
    refine rel_val (.int .i64 (totX f g val pre + lossN f g (val x))) rfl rfl (fun w' _ => by simp [execOp, Act.eval, go_sem, hw2]) (fun _ => ?_)
    simp only [Act.put, List.setIfInBounds_toArray, List.set_cons_zero, List.set_cons_succ]
    refine rel_nil (fun w' inv => ?_)
    have M7 := inv.cls.1
    have B7 := inv.cls.2
    clear inv
    change wpListIn _ _ _ _ _ (_ :: []) _ _
    have e4 := (M7.at 1 rfl).free 0
    have c4 := (M7.at 1 rfl).cell (i := 0) rfl
    clear hw2
    gi_wp2
    have M8 := M7.set 1 0 (.int .i64 (totX f g val pre + lossN f g (val x))) rfl #[.int .i64 (totX f g val pre + lossN f g (val x))] rfl
    refine ⟨(KeepsOthers.of_below B7).trans (KeepsOthers.setCell _ _ _), (M8.below.block Bs hBs).trans (M6.below.block Bs hBs).symm, ?_, ?_, ?_⟩
    · rw [hsn.out]; exact M8
    · rw [hsn.out, List.length_append]; simp; omega
    · rw [hsn.out, List.length_append]; simp; omega
  case done =>
    rintro D xs W6 hD rfl ⟨M6, h1, h2⟩ hK
    have d0 := (M6.at 1 rfl).cell (i := 0) rfl
    gi_wp2
    refine ⟨by simp, .inl ⟨_, _, rfl, run_takeDeferred hK, ?_⟩⟩
    have M7 := M6.taken (o' := .deferred none) (Nat.le_trans hsz hD) hK rfl
    exact ⟨.int .i64 (totX f g val xs), by simp [results, Tryd.results41, go_sem], rfl, M7.below⟩
  case stop =>
    rintro D c pre W5 hD _ h hK
    exact h.elim
end Go.Proofs.YtpiejcibjphffaaDoor
