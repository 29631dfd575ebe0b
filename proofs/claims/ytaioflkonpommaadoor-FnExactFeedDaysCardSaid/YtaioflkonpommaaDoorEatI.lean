/-
  A flock goes to its choice, and eats there: the program's way.
-/
import Derived.Test.YtaioflkonpommaaDoorEat
import Derived.Test.YtaioflkonpommaaDoorAny
namespace Go.Proofs.YtaioflkonpommaaDoor
open Go Go.RowKit

set_option maxRecDepth 100000 in
set_option maxHeartbeats 4000000 in
theorem eatAt_any (f : Fd) (n : Nat) (hn : n < 100) (hS3 : 0 ≤ f.S n) (hS4 : f.S n ≤ 1000) (m : Int) (hm : 0 ≤ m) (hm2 : m ≤ 9223372036854775807) (w : World) : Calls Tryd.prog 48 #[.agg (fcells f), .int .i64 n, .int .i64 m] w fun e w' => e = .returned (.tuple #[.agg (fcells (turned f n (f.K n) (f.S n - minI m (f.S n)))), .agg (vis n (minI m (f.S n)))]) ∧ Below w.heap.size w w' := by
  have hn1 : (n : Int) < 100 := by omega
  have hz : Hid (Tryd.zeroCells30.size = 202) := Lib.hid (by rw [zeroFd, fcells_size])
  have HT := Lib.hid (fun w => takeFrom_any f n hn hS3 hS4 m hm hm2 (f.K n) rfl w)
  obtain ⟨ht3, ht4⟩ := minI_le hm hS3
  obtain ⟨FF, hFF⟩ : ∃ FF, turned f n (f.K n) (f.S n - minI m (f.S n)) = FF := ⟨_, rfl⟩
  obtain ⟨x, hx⟩ : ∃ x, minI m (f.S n) = x := ⟨_, rfl⟩
  rw [hFF] at HT ⊢
  rw [hx] at HT ht3 ht4 ⊢
  have hx2 : x ≤ 1000 := by omega
  clear hFF hx hS3 hS4 ht4 hn hm hm2
  go_enter Tryd.func48, Tryd.ntmps48
  go_upto_region 1 with (fail)
  obtain ⟨W, hW, M⟩ := open3 w (fcells f) 30 Tryd.zeroCells30 30 (vis 0 0) 32
  unfold vis at hW
  rw [hW]; clear hW
  go_upto_region 2 with (first
    | (refine wpList_load_part rfl 30 _ rfl w.heap.size 0 rfl (fcells f) _ (M.at 0 rfl).whole Tryd.underlying30 rfl (by rw [fcells_size]; exact sizeFd) ?_)
    | (go_at_call 77; refine (HT.out _).mono ?_; rintro e W2 ⟨rfl, hb⟩; have M2 := M.call hb; clear hb M; have MA := M2.alloc Tryd.zeroCells30 30)
    | (refine wpList_store_row rfl 30 _ _ rfl W2.heap.size (fcells FF) rfl rfl 30 _ (MA.at 3 rfl) (by rw [fcells_size]; exact sizeFd) (by rw [hz.out, fcells_size]) (fcells_one _) ?_; have MB := MA.row 3 rfl (fcells FF); clear MA))
  generalize World.setRow _ _ _ = V3 at MB ⊢
  have M3 : Mem w V3 [⟨w.heap.size, fcells f, 30⟩, ⟨w.heap.size + 1, Tryd.zeroCells30, 30⟩, ⟨w.heap.size + 1 + 1, vis 0 0, 32⟩, ⟨W2.heap.size, fcells FF, 30⟩] := MB
  clear MB
  go_wp2_with (first
    | (refine wpList_load_part rfl 30 _ rfl W2.heap.size 0 rfl (fcells FF) _ (M3.at 3 rfl).whole Tryd.underlying30 rfl (by rw [fcells_size]; exact sizeFd) ?_)
    | (refine wpList_store_row rfl 30 _ _ rfl (w.heap.size + 1) (fcells FF) rfl rfl 30 _ (M3.at 1 rfl) (by rw [fcells_size]; exact sizeFd) (by rw [hz.out, fcells_size]) (fcells_one _) ?_; have MX := M3.row 1 rfl (fcells FF); clear M3)
    | (refine wpList_store_row rfl 32 _ _ rfl (w.heap.size + 1 + 1) (vis n x) rfl rfl 32 _ (MX.at 2 rfl) (by rw [vis_size]; exact sizeVis) (by simp only [vis_size]) (vis_one _ _) ?_; have MY := MX.row 2 rfl (vis n x); clear MX))
  exact bodyPost_ret (results_row2 rfl _ _ (w.heap.size + 1) (w.heap.size + 1 + 1) 30 32 _ _ _ _ rfl rfl (MY.at 1 rfl) (MY.at 2 rfl) Tryd.underlying30 rfl (by rw [fcells_size]; exact sizeFd) Tryd.underlying32 rfl (by rw [vis_size]; exact sizeVis)) rfl ⟨rfl, MY.below⟩

set_option maxRecDepth 100000 in
set_option maxHeartbeats 8000000 in
theorem implEatOnce (f : Fd) (hf : f.Wf) (g : Nat → Int) (hg : Wf16 g) (a : Nat → Int) (ha : WfR a) (A : Nat → Addr) (w : World) (T0 : TabAt w) (S0 : Sents w A) :
    Calls Tryd.prog 13 #[.agg (fcells f), .agg (acells .i16 100 g), vFlock a] w fun e w' => e = .returned (.tuple #[.agg (fcells (eaF f g a)), .agg (eaV f g a), .int .i64 (eaCode f g a)]) ∧ Below w.heap.size w w' := by
  have S := Lib.hid S0
  have T := Lib.hid T0
  clear S0 T0
  have hif := isIfaceErr
  have hz : Hid (Tryd.zeroCells30.size = 202) := Lib.hid (by rw [zeroFd, fcells_size])
  have hz1 : Hid (Tryd.zeroCells30.all (·.oneCell') = true) := Lib.hid (by rw [zeroFd]; exact fcells_one _)
  have HAF := Lib.hid ha
  cases hok : ffOk f g a with
  | false =>
    have HOK := Lib.hid hok
    have hec : eaCode f g a = 1 := by unfold eaCode; rw [show chCode f g a = 1 by unfold chCode; rw [hok]; rfl, if_neg (by decide)]
    have HF : Hid (fcells (eaF f g a) = Tryd.zeroCells30) := Lib.hid (eaF_no hec (by decide))
    have HV : Hid (eaV f g a = vis 0 0) := Lib.hid (eaV_no hec (by decide))
    have HE := Lib.hid hec
    clear hok hec ha
    go_enter Tryd.func13, Tryd.ntmps13
    go_upto_region 1 with (fail)
    obtain ⟨W, hW, M⟩ := open5 w (fcells f) 30 (acells .i16 100 g) 36 (flc a) 38 Tryd.zeroCells30 30 (vis 0 0) 32
    unfold flc vis at hW
    rw [hW]; clear hW
    go_wp2_with (first
      | (refine wpList_load_part rfl 30 _ rfl w.heap.size 0 rfl (fcells f) _ (M.at 0 rfl).whole Tryd.underlying30 rfl (by rw [fcells_size]; exact sizeFd) ?_)
      | (refine wpList_load_part rfl 38 _ rfl (w.heap.size + 1 + 1) 0 rfl (flc a) _ (M.at 2 rfl).whole Tryd.underlying38 rfl (by kernel_rfl) ?_)
      | (refine wpList_buildRow rfl 51 38 _ rfl (flc a) rfl Tryd.underlying51 (by rw [flc_size]; kernel_rfl) (by rw [flc_size]; kernel_rfl) (by rw [flc_size]; omega) (by rw [flc_size]; omega) ?_; have MA := M.alloc (flc a) 38)
      | (refine wpList_load_part rfl 36 _ rfl (w.heap.size + 1) 0 rfl (acells .i16 100 g) _ (MA.at 1 rfl).whole Tryd.underlying36 rfl (by rw [acells_size]; exact sizeE) ?_)
      | (refine wpList_buildRow rfl 110 36 _ rfl (acells .i16 100 g) rfl Tryd.underlying110 (by rw [acells_size]; exact sizeE) (by rw [acells_size]; kernel_rfl) (by rw [acells_size]; omega) (by rw [acells_size]; omega) ?_; have MB := MA.alloc (acells .i16 100 g) 36; have HB1 := Lib.hid ((Blk.new W (flc a) 38).alloc (.cells (acells .i16 100 g) 36)); have HB2 := Lib.hid (blk_next W (flc a) 38 (acells .i16 100 g) 36))
      | (go_at_call 44; refine (checkOne f hf g hg a HAF.out A W.heap.size (W.heap.size + 1) 38 36 _ (T.out.later MB.below) (S.out.later MB.below) HB1.out HB2.out).mono ?_; rintro e W2 ⟨rfl, hb⟩; rw [HOK.out]; simp only [errIf, Bool.false_eq_true, if_false, if_true]; have M2 := MB.call hb; clear hb HB1 HB2 MA MB)
      | (go_at_call 45; refine (codeOf_err A 1 (by omega) (by omega) _ (S.out.later M2.below)).mono ?_; rintro e W9 ⟨rfl, rfl⟩)
      | (refine wpList_store_row rfl 30 _ _ rfl (w.heap.size + 1 + 1 + 1) Tryd.zeroCells30 rfl rfl 30 _ (M2.at 3 rfl) (by rw [hz.out]; exact sizeFd) (by rw [hz.out]) hz1.out ?_; have MX := M2.row 3 rfl Tryd.zeroCells30; clear M2)
      | (refine wpList_store_row rfl 32 _ _ rfl (w.heap.size + 1 + 1 + 1 + 1) (vis 0 0) rfl rfl 32 _ (MX.at 4 rfl) (by rw [vis_size]; exact sizeVis) (by simp only [vis_size]) (vis_one _ _) ?_; have MY := MX.row 4 rfl (vis 0 0); clear MX))
    exact bodyPost_ret (results_row2_tmp rfl _ _ (w.heap.size + 1 + 1 + 1) (w.heap.size + 1 + 1 + 1 + 1) 30 32 _ _ _ _ rfl rfl (MY.at 3 rfl) (MY.at 4 rfl) Tryd.underlying30 rfl (by rw [hz.out]; exact sizeFd) Tryd.underlying32 rfl (by rw [vis_size]; exact sizeVis)) rfl ⟨by rw [HF.out, HV.out, HE.out]; rfl, MY.below⟩
  | true =>
    have HOK := Lib.hid hok
    have hfo := (ff_okF hok).1
    have h0 := flock_tree (ff_okF hok).2.1
    have h5 := flock_taste (ff_okF hok).2.1
    have hhun := flock_hunger (ff_okF hok).2.1
    have HCO := Lib.hid (fun w S => choiceOf_any f hfo g hg a ha h0 h5 A w S)
    rcases ea_cases f g a hok with ⟨hcc, hlen, hec⟩ | ⟨n, hn, hlen, hcv, hen, hcc, hrest⟩
    · have h1 : choVal (a 5) (mealsR f g a 100) = 0 := by unfold choVal; rw [if_pos hlen]
      have h2 : choErr A (mealsR f g a 100) = errVal (A 6) := by unfold choErr; rw [if_pos hlen]
      rw [h1, h2] at HCO
      have HF : Hid (fcells (eaF f g a) = Tryd.zeroCells30) := Lib.hid (eaF_no hec (by decide))
      have HV : Hid (eaV f g a = vis 0 0) := Lib.hid (eaV_no hec (by decide))
      have HE := Lib.hid hec
      clear hok hec ha h0 h5 hhun hcc hlen hfo h1 h2
      go_enter Tryd.func13, Tryd.ntmps13
      go_upto_region 1 with (fail)
      obtain ⟨W, hW, M⟩ := open5 w (fcells f) 30 (acells .i16 100 g) 36 (flc a) 38 Tryd.zeroCells30 30 (vis 0 0) 32
      unfold flc vis at hW
      rw [hW]; clear hW
      go_wp2_with (first
        | (refine wpList_load_part rfl 30 _ rfl w.heap.size 0 rfl (fcells f) _ (M.at 0 rfl).whole Tryd.underlying30 rfl (by rw [fcells_size]; exact sizeFd) ?_)
        | (refine wpList_load_part rfl 38 _ rfl (w.heap.size + 1 + 1) 0 rfl (flc a) _ (M.at 2 rfl).whole Tryd.underlying38 rfl (by kernel_rfl) ?_)
        | (refine wpList_buildRow rfl 51 38 _ rfl (flc a) rfl Tryd.underlying51 (by rw [flc_size]; kernel_rfl) (by rw [flc_size]; kernel_rfl) (by rw [flc_size]; omega) (by rw [flc_size]; omega) ?_; have MA := M.alloc (flc a) 38)
        | (refine wpList_load_part rfl 36 _ rfl (w.heap.size + 1) 0 rfl (acells .i16 100 g) _ (MA.at 1 rfl).whole Tryd.underlying36 rfl (by rw [acells_size]; exact sizeE) ?_)
        | (refine wpList_buildRow rfl 110 36 _ rfl (acells .i16 100 g) rfl Tryd.underlying110 (by rw [acells_size]; exact sizeE) (by rw [acells_size]; kernel_rfl) (by rw [acells_size]; omega) (by rw [acells_size]; omega) ?_; have MB := MA.alloc (acells .i16 100 g) 36; have HB1 := Lib.hid ((Blk.new W (flc a) 38).alloc (.cells (acells .i16 100 g) 36)); have HB2 := Lib.hid (blk_next W (flc a) 38 (acells .i16 100 g) 36))
        | (go_at_call 44; refine (checkOne f hf g hg a HAF.out A W.heap.size (W.heap.size + 1) 38 36 _ (T.out.later MB.below) (S.out.later MB.below) HB1.out HB2.out).mono ?_; rintro e W2 ⟨rfl, hb⟩; rw [HOK.out]; simp only [errIf, Bool.false_eq_true, if_false, if_true]; have M2 := MB.call hb; clear hb HB1 HB2 MA MB)
        | (refine wpList_load_part rfl 30 _ rfl w.heap.size 0 rfl (fcells f) _ (M2.at 0 rfl).whole Tryd.underlying30 rfl (by rw [fcells_size]; exact sizeFd) ?_)
        | (refine wpList_load_part rfl 36 _ rfl (w.heap.size + 1) 0 rfl (acells .i16 100 g) _ (M2.at 1 rfl).whole Tryd.underlying36 rfl (by rw [acells_size]; exact sizeE) ?_)
        | (refine wpList_load_part rfl 38 _ rfl (w.heap.size + 1 + 1) 0 rfl (flc a) _ (M2.at 2 rfl).whole Tryd.underlying38 rfl (by kernel_rfl) ?_)
        | (go_at_call 46; refine (HCO.out _ (S.out.later M2.below)).mono ?_; rintro e W3 ⟨rfl, hb⟩; have M3 := M2.call hb; clear hb M2)
        | (go_at_call 45; refine (codeOf_err A 6 (by omega) (by omega) _ (S.out.later M3.below)).mono ?_; rintro e W9 ⟨rfl, rfl⟩)
        | (refine wpList_store_row rfl 30 _ _ rfl (w.heap.size + 1 + 1 + 1) Tryd.zeroCells30 rfl rfl 30 _ (M3.at 3 rfl) (by rw [hz.out]; exact sizeFd) (by rw [hz.out]) hz1.out ?_; have MX := M3.row 3 rfl Tryd.zeroCells30; clear M3)
        | (refine wpList_store_row rfl 32 _ _ rfl (w.heap.size + 1 + 1 + 1 + 1) (vis 0 0) rfl rfl 32 _ (MX.at 4 rfl) (by rw [vis_size]; exact sizeVis) (by simp only [vis_size]) (vis_one _ _) ?_; have MY := MX.row 4 rfl (vis 0 0); clear MX))
      exact bodyPost_ret (results_row2_tmp rfl _ _ (w.heap.size + 1 + 1 + 1) (w.heap.size + 1 + 1 + 1 + 1) 30 32 _ _ _ _ rfl rfl (MY.at 3 rfl) (MY.at 4 rfl) Tryd.underlying30 rfl (by rw [hz.out]; exact sizeFd) Tryd.underlying32 rfl (by rw [vis_size]; exact sizeVis)) rfl ⟨by rw [HF.out, HV.out, HE.out]; rfl, MY.below⟩
    · have h1 : choVal (a 5) (mealsR f g a 100) = (n : Int) := by unfold choVal; rw [if_neg hlen, hcv]
      have h2 : choErr A (mealsR f g a 100) = .nilIface := by unfold choErr; rw [if_neg hlen]
      rw [h1, h2] at HCO
      have hn1 : (n : Int) < 100 := by omega
      rcases hrest with ⟨hz0, hec⟩ | ⟨hz0, hec, hF9, hV9⟩
      · have HF : Hid (fcells (eaF f g a) = Tryd.zeroCells30) := Lib.hid (eaF_no hec (by decide))
        have HV : Hid (eaV f g a = vis 0 0) := Lib.hid (eaV_no hec (by decide))
        have HE := Lib.hid hec
        have HH := Lib.hid hz0
        clear hok hec ha h0 h5 hhun hcc hlen hfo h1 h2 hz0 hcv hen
        go_enter Tryd.func13, Tryd.ntmps13
        go_upto_region 1 with (fail)
        obtain ⟨W, hW, M⟩ := open5 w (fcells f) 30 (acells .i16 100 g) 36 (flc a) 38 Tryd.zeroCells30 30 (vis 0 0) 32
        unfold flc vis at hW
        rw [hW]; clear hW
        go_wp2_with (first
          | (refine wpList_load_part rfl 30 _ rfl w.heap.size 0 rfl (fcells f) _ (M.at 0 rfl).whole Tryd.underlying30 rfl (by rw [fcells_size]; exact sizeFd) ?_)
          | (refine wpList_load_part rfl 38 _ rfl (w.heap.size + 1 + 1) 0 rfl (flc a) _ (M.at 2 rfl).whole Tryd.underlying38 rfl (by kernel_rfl) ?_)
          | (refine wpList_buildRow rfl 51 38 _ rfl (flc a) rfl Tryd.underlying51 (by rw [flc_size]; kernel_rfl) (by rw [flc_size]; kernel_rfl) (by rw [flc_size]; omega) (by rw [flc_size]; omega) ?_; have MA := M.alloc (flc a) 38)
          | (refine wpList_load_part rfl 36 _ rfl (w.heap.size + 1) 0 rfl (acells .i16 100 g) _ (MA.at 1 rfl).whole Tryd.underlying36 rfl (by rw [acells_size]; exact sizeE) ?_)
          | (refine wpList_buildRow rfl 110 36 _ rfl (acells .i16 100 g) rfl Tryd.underlying110 (by rw [acells_size]; exact sizeE) (by rw [acells_size]; kernel_rfl) (by rw [acells_size]; omega) (by rw [acells_size]; omega) ?_; have MB := MA.alloc (acells .i16 100 g) 36; have HB1 := Lib.hid ((Blk.new W (flc a) 38).alloc (.cells (acells .i16 100 g) 36)); have HB2 := Lib.hid (blk_next W (flc a) 38 (acells .i16 100 g) 36))
          | (go_at_call 44; refine (checkOne f hf g hg a HAF.out A W.heap.size (W.heap.size + 1) 38 36 _ (T.out.later MB.below) (S.out.later MB.below) HB1.out HB2.out).mono ?_; rintro e W2 ⟨rfl, hb⟩; rw [HOK.out]; simp only [errIf, Bool.false_eq_true, if_false, if_true]; have M2 := MB.call hb; clear hb HB1 HB2 MA MB)
          | (refine wpList_load_part rfl 30 _ rfl w.heap.size 0 rfl (fcells f) _ (M2.at 0 rfl).whole Tryd.underlying30 rfl (by rw [fcells_size]; exact sizeFd) ?_)
          | (refine wpList_load_part rfl 36 _ rfl (w.heap.size + 1) 0 rfl (acells .i16 100 g) _ (M2.at 1 rfl).whole Tryd.underlying36 rfl (by rw [acells_size]; exact sizeE) ?_)
          | (refine wpList_load_part rfl 38 _ rfl (w.heap.size + 1 + 1) 0 rfl (flc a) _ (M2.at 2 rfl).whole Tryd.underlying38 rfl (by kernel_rfl) ?_)
          | (go_at_call 46; refine (HCO.out _ (S.out.later M2.below)).mono ?_; rintro e W3 ⟨rfl, hb⟩; have M3 := M2.call hb; clear hb M2)
          | (refine wpList_load_part rfl 38 _ rfl (w.heap.size + 1 + 1) 0 rfl (flc a) _ (M3.at 2 rfl).whole Tryd.underlying38 rfl (by kernel_rfl) ?_)
          | (go_at_call 47; refine (hunger_any a HAF.out _).mono ?_; rintro e W4 ⟨rfl, hb⟩; rw [HH.out]; have M4 := M3.call hb; clear hb M3; have hv4 := (S.out.later M4.below).v4)
          | (go_at_call 45; refine (codeOf_err A 4 (by omega) (by omega) _ (S.out.later M4.below)).mono ?_; rintro e W9 ⟨rfl, rfl⟩)
          | (refine wpList_store_row rfl 30 _ _ rfl (w.heap.size + 1 + 1 + 1) Tryd.zeroCells30 rfl rfl 30 _ (M4.at 3 rfl) (by rw [hz.out]; exact sizeFd) (by rw [hz.out]) hz1.out ?_; have MX := M4.row 3 rfl Tryd.zeroCells30; clear M4)
          | (refine wpList_store_row rfl 32 _ _ rfl (w.heap.size + 1 + 1 + 1 + 1) (vis 0 0) rfl rfl 32 _ (MX.at 4 rfl) (by rw [vis_size]; exact sizeVis) (by simp only [vis_size]) (vis_one _ _) ?_; have MY := MX.row 4 rfl (vis 0 0); clear MX))
        exact bodyPost_ret (results_row2_tmp rfl _ _ (w.heap.size + 1 + 1 + 1) (w.heap.size + 1 + 1 + 1 + 1) 30 32 _ _ _ _ rfl rfl (MY.at 3 rfl) (MY.at 4 rfl) Tryd.underlying30 rfl (by rw [hz.out]; exact sizeFd) Tryd.underlying32 rfl (by rw [vis_size]; exact sizeVis)) rfl ⟨by rw [HF.out, HV.out, HE.out]; rfl, MY.below⟩
      · obtain ⟨hS3, hS4⟩ := ok_seeds hfo hn
        obtain ⟨m, hm⟩ : ∃ m, a 1 * a 2 = m := ⟨_, rfl⟩
        have HH := Lib.hid hm
        rw [hm] at hhun hz0 hF9 hV9
        obtain ⟨hm0, hm1⟩ := hhun
        have HEAT := Lib.hid (fun w => eatAt_any f n hn hS3 hS4 m hm0 (by omega) w)
        obtain ⟨FF, hFF⟩ : ∃ FF, turned f n (f.K n) (f.S n - minI m (f.S n)) = FF := ⟨_, rfl⟩
        obtain ⟨x, hx⟩ : ∃ x, minI m (f.S n) = x := ⟨_, rfl⟩
        rw [hFF] at HEAT hF9
        rw [hx] at HEAT hV9
        have HF := Lib.hid hF9
        have HV := Lib.hid hV9
        have HE := Lib.hid hec
        clear hok hec ha h0 h5 hcc hlen hfo h1 h2 hcv hen hF9 hV9 hFF hx hS3 hS4 hm hm0 hm1 hn
        go_enter Tryd.func13, Tryd.ntmps13
        go_upto_region 1 with (fail)
        obtain ⟨W, hW, M⟩ := open5 w (fcells f) 30 (acells .i16 100 g) 36 (flc a) 38 Tryd.zeroCells30 30 (vis 0 0) 32
        unfold flc vis at hW
        rw [hW]; clear hW
        go_upto_region 9 with (first
          | (refine wpList_load_part rfl 30 _ rfl w.heap.size 0 rfl (fcells f) _ (M.at 0 rfl).whole Tryd.underlying30 rfl (by rw [fcells_size]; exact sizeFd) ?_)
          | (refine wpList_load_part rfl 38 _ rfl (w.heap.size + 1 + 1) 0 rfl (flc a) _ (M.at 2 rfl).whole Tryd.underlying38 rfl (by kernel_rfl) ?_)
          | (refine wpList_buildRow rfl 51 38 _ rfl (flc a) rfl Tryd.underlying51 (by rw [flc_size]; kernel_rfl) (by rw [flc_size]; kernel_rfl) (by rw [flc_size]; omega) (by rw [flc_size]; omega) ?_; have MA := M.alloc (flc a) 38)
          | (refine wpList_load_part rfl 36 _ rfl (w.heap.size + 1) 0 rfl (acells .i16 100 g) _ (MA.at 1 rfl).whole Tryd.underlying36 rfl (by rw [acells_size]; exact sizeE) ?_)
          | (refine wpList_buildRow rfl 110 36 _ rfl (acells .i16 100 g) rfl Tryd.underlying110 (by rw [acells_size]; exact sizeE) (by rw [acells_size]; kernel_rfl) (by rw [acells_size]; omega) (by rw [acells_size]; omega) ?_; have MB := MA.alloc (acells .i16 100 g) 36; have HB1 := Lib.hid ((Blk.new W (flc a) 38).alloc (.cells (acells .i16 100 g) 36)); have HB2 := Lib.hid (blk_next W (flc a) 38 (acells .i16 100 g) 36))
          | (go_at_call 44; refine (checkOne f hf g hg a HAF.out A W.heap.size (W.heap.size + 1) 38 36 _ (T.out.later MB.below) (S.out.later MB.below) HB1.out HB2.out).mono ?_; rintro e W2 ⟨rfl, hb⟩; rw [HOK.out]; simp only [errIf, Bool.false_eq_true, if_false, if_true]; have M2 := MB.call hb; clear hb HB1 HB2 MA MB)
          | (refine wpList_load_part rfl 30 _ rfl w.heap.size 0 rfl (fcells f) _ (M2.at 0 rfl).whole Tryd.underlying30 rfl (by rw [fcells_size]; exact sizeFd) ?_)
          | (refine wpList_load_part rfl 36 _ rfl (w.heap.size + 1) 0 rfl (acells .i16 100 g) _ (M2.at 1 rfl).whole Tryd.underlying36 rfl (by rw [acells_size]; exact sizeE) ?_)
          | (refine wpList_load_part rfl 38 _ rfl (w.heap.size + 1 + 1) 0 rfl (flc a) _ (M2.at 2 rfl).whole Tryd.underlying38 rfl (by kernel_rfl) ?_)
          | (go_at_call 46; refine (HCO.out _ (S.out.later M2.below)).mono ?_; rintro e W3 ⟨rfl, hb⟩; have M3 := M2.call hb; clear hb M2)
          | (refine wpList_load_part rfl 38 _ rfl (w.heap.size + 1 + 1) 0 rfl (flc a) _ (M3.at 2 rfl).whole Tryd.underlying38 rfl (by kernel_rfl) ?_)
          | (go_at_call 47; refine (hunger_any a HAF.out _).mono ?_; rintro e W4 ⟨rfl, hb⟩; rw [HH.out]; have M4 := M3.call hb; clear hb M3))
        simp only [World.size_alloc] at M4
        refine wp_region_rel_edges [(10, 7)] 10 (DL [dV (.agg (fcells f)), dV (.int .i64 n), dV (.agg (flc a)), dV (.int .i64 m), dV (.tuple #[.agg (fcells FF), .agg (vis n x)]), dV (.tuple #[.agg (fcells FF), .agg (vis n x)]), dV (.agg (fcells FF)), dV (.agg (vis n x)), dB (Tryd.zeroCells30) 30, dB (vis 0 0) 32]) (C := fun w' => Mem w w' [⟨w.heap.size, fcells f, 30⟩, ⟨w.heap.size + 1, acells .i16 100 g, 36⟩, ⟨w.heap.size + 1 + 1, flc a, 38⟩, ⟨w.heap.size + 1 + 1 + 1, Tryd.zeroCells30, 30⟩, ⟨w.heap.size + 1 + 1 + 1 + 1, vis 0 0, 32⟩, ⟨W.heap.size, flc a, 38⟩, ⟨W.heap.size + 1, acells .i16 100 g, 36⟩]) (fun _ _ _ _ _ h => h) (by kernel_rfl) (by kernel_rfl) (by kernel_rfl) grows_mem
          (stays_DL (fun d hd => by
            simp only [List.mem_cons, List.mem_nil_iff, or_false] at hd
            rcases hd with rfl | rfl | rfl | rfl | rfl | rfl | rfl | rfl | rfl | rfl <;> first | exact stay_V | exact stay_B)) M4.drew ?_
        refine rel_load 30 _ rfl (w.heap.size) (0) rfl (fcells f) _ rfl rfl (fun w' hw' => (hw'.at 0 rfl).whole) Tryd.underlying30 rfl (by rw [fcells_size]; exact sizeFd) (fun _ => ?_)
        simp only [Act.put, List.setIfInBounds_toArray, List.set_cons_zero, List.set_cons_succ]
        refine rel_val _ rfl rfl (fun _ _ => rfl) (fun _ => ?_)
        simp only [Act.put, List.setIfInBounds_toArray, List.set_cons_zero, List.set_cons_succ]
        refine rel_load 38 _ rfl (w.heap.size + 1 + 1) (0) rfl (flc a) _ rfl rfl (fun w' hw' => (hw'.at 2 rfl).whole) Tryd.underlying38 rfl (by kernel_rfl) (fun _ => ?_)
        simp only [Act.put, List.setIfInBounds_toArray, List.set_cons_zero, List.set_cons_succ]
        refine rel_call (.int .i64 m) 47 #[vFlock a] rfl rfl rfl rfl (enters_of Tryd.func47 (by kernel_rfl) rfl) (fun w' _ => by rw [← HH.out]; exact hunger_any a HAF.out w') (fun _ => ?_)
        simp only [Act.put, List.setIfInBounds_toArray, List.set_cons_zero, List.set_cons_succ]
        refine rel_call (.tuple #[.agg (fcells FF), .agg (vis n x)]) 48 #[.agg (fcells f), .int .i64 n, .int .i64 m] rfl rfl rfl rfl (enters_of Tryd.func48 (by kernel_rfl) rfl) (fun w' _ => HEAT.out w') (fun _ => ?_)
        simp only [Act.put, List.setIfInBounds_toArray, List.set_cons_zero, List.set_cons_succ]
        refine rel_val _ rfl rfl (fun _ _ => rfl) (fun _ => ?_)
        simp only [Act.put, List.setIfInBounds_toArray, List.set_cons_zero, List.set_cons_succ]
        refine rel_val _ rfl rfl (fun _ _ => rfl) (fun _ => ?_)
        simp only [Act.put, List.setIfInBounds_toArray, List.set_cons_zero, List.set_cons_succ]
        refine rel_val _ rfl rfl (fun _ _ => rfl) (fun _ => ?_)
        simp only [Act.put, List.setIfInBounds_toArray, List.set_cons_zero, List.set_cons_succ]
        refine rel_alloc (Tryd.zeroCells30) 30 rfl rfl (fun _ => by rfl) (fun nb => ?_)
        simp only [Act.put, List.setIfInBounds_toArray, List.set_cons_zero, List.set_cons_succ]
        refine rel_alloc (vis 0 0) 32 rfl rfl (fun _ => by rfl) (fun nc => ?_)
        simp only [Act.put, List.setIfInBounds_toArray, List.set_cons_zero, List.set_cons_succ]
        refine rel_nil (fun W6 inv => ?_)
        have MA := inv.mem2 (i := 8) (j := 9) M4 inv.cls rfl rfl (by decide)
        clear inv M4
        change wpList _ _ _ (_ :: [_]) _ _
        generalize List.toArray (List.foldl addEdge _ _) = ops9
        refine wpList_store_row rfl 30 _ _ rfl nb (fcells FF) rfl rfl 30 _ (MA.at 7 rfl) (by rw [fcells_size]; exact sizeFd) (by rw [hz.out, fcells_size]) (fcells_one _) ?_
        have MB := MA.row 7 rfl (fcells FF)
        clear MA
        refine wpList_store_row rfl 32 _ _ rfl nc (vis n x) rfl rfl 32 _ (MB.at 8 rfl) (by rw [vis_size]; exact sizeVis) (by simp only [vis_size]) (vis_one _ _) ?_
        have MC := MB.row 8 rfl (vis n x)
        clear MB
        generalize World.setRow _ _ _ = V7 at MC ⊢
        have M7 : Mem w V7 [⟨w.heap.size, fcells f, 30⟩, ⟨w.heap.size + 1, acells .i16 100 g, 36⟩, ⟨w.heap.size + 1 + 1, flc a, 38⟩, ⟨w.heap.size + 1 + 1 + 1, Tryd.zeroCells30, 30⟩, ⟨w.heap.size + 1 + 1 + 1 + 1, vis 0 0, 32⟩, ⟨W.heap.size, flc a, 38⟩, ⟨W.heap.size + 1, acells .i16 100 g, 36⟩, ⟨nb, fcells FF, 30⟩, ⟨nc, vis n x, 32⟩] := MC
        clear MC
        go_upto_region 10 with (fail)
        have P0 := M7.drew
        have P1 := P0.cells 3 0 (fcells FF).toList rfl (fcells FF) ((P0.at 3 rfl).over (fcells FF) (by rw [hz.out, fcells_size]))
        have P2 := P1.cells 4 0 (vis n x).toList rfl (vis n x) ((P1.at 4 rfl).over (vis n x) (by simp only [vis_size]))
        have a0 := run_loadAt_part (P := Tryd.prog) _ nb 0 30 (fcells FF) _ (P0.at 7 rfl).whole Tryd.underlying30 rfl (by rw [fcells_size]; exact sizeFd)
        have b0 := run_loadAt_part (P := Tryd.prog) _ nc 0 32 (vis n x) _ (P0.at 8 rfl).whole Tryd.underlying32 rfl (by rw [vis_size]; exact sizeVis)
        have b1 := run_loadAt_part (P := Tryd.prog) _ nc 0 32 (vis n x) _ (P1.at 8 rfl).whole Tryd.underlying32 rfl (by rw [vis_size]; exact sizeVis)
        have s0 := run_storeAt_mid (P := Tryd.prog) V7.drew (w.heap.size + 1 + 1 + 1) 0 30 (fcells FF) ((P0.at 3 rfl).there 0 _ (by rw [hz.out, fcells_size]; omega)) (by rw [fcells_size]; exact sizeFd) (fcells_one _)
        generalize V7.drew.setCells (w.heap.size + 1 + 1 + 1) 0 (fcells FF).toList = X1 at P1 P2 b1 s0
        have s1 := run_storeAt_mid (P := Tryd.prog) X1 (w.heap.size + 1 + 1 + 1 + 1) 0 32 (vis n x) ((P1.at 4 rfl).there 0 _ (by simp only [vis_size]; omega)) (by rw [vis_size]; exact sizeVis) (vis_one _ _)
        generalize X1.setCells (w.heap.size + 1 + 1 + 1 + 1) 0 (vis n x).toList = X2 at P2 s1
        clear M7 P0 P1
        refine wp_region_any (by kernel_rfl) ?_
        refine wpAny_all (rs := [0, 1]) (by kernel_rfl) (by decide) (two_of7 ?_ ?_)
        · refine any_val7 (.agg (fcells FF)) 54 rfl rfl rfl (exec_load7 rfl rfl a0) ?_
          simp only [Act.put, List.setIfInBounds_toArray, List.set_cons_zero, List.set_cons_succ]
          refine wpAny_all (rs := [1, 2]) (by kernel_rfl) (by decide) (two_of7 ?_ ?_)
          · refine any_val7 (.agg (vis n x)) 55 rfl rfl rfl (exec_load7 rfl rfl b0) ?_
            simp only [Act.put, List.setIfInBounds_toArray, List.set_cons_zero, List.set_cons_succ]
            refine wpAny_all (rs := [2]) (by kernel_rfl) (by decide) (one_of7 ?_)
            refine any_skip7 rfl rfl (exec_store7 rfl rfl rfl s0) ?_
            simp only [Act.put, List.setIfInBounds_toArray, List.set_cons_zero, List.set_cons_succ]
            refine wpAny_all (rs := [3]) (by kernel_rfl) (by decide) (one_of7 ?_)
            refine any_skip7 rfl rfl (exec_store7 rfl rfl rfl s1) ?_
            simp only [Act.put, List.setIfInBounds_toArray, List.set_cons_zero, List.set_cons_succ]
            refine wpAny_all (rs := [4]) (by kernel_rfl) (by decide) (one_of7 ?_)
            refine any_val7 (.int .i64 0) 8 rfl rfl rfl (rfl) ?_
            simp only [Act.put, List.setIfInBounds_toArray, List.set_cons_zero, List.set_cons_succ]
            refine wpAny_done (by kernel_rfl) ?_ _
            go_wp2_with fail
            exact bodyPost_ret (results_row2_tmp rfl _ _ (w.heap.size + 1 + 1 + 1) (w.heap.size + 1 + 1 + 1 + 1) 30 32 _ _ _ _ rfl rfl (P2.at 3 rfl) (P2.at 4 rfl) Tryd.underlying30 rfl (by rw [fcells_size]; exact sizeFd) Tryd.underlying32 rfl (by rw [vis_size]; exact sizeVis)) rfl ⟨by rw [HF.out, HV.out, HE.out]; rfl, P2.below⟩
          · refine any_skip7 rfl rfl (exec_store7 rfl rfl rfl s0) ?_
            simp only [Act.put, List.setIfInBounds_toArray, List.set_cons_zero, List.set_cons_succ]
            refine wpAny_all (rs := [1]) (by kernel_rfl) (by decide) (one_of7 ?_)
            refine any_val7 (.agg (vis n x)) 55 rfl rfl rfl (exec_load7 rfl rfl b1) ?_
            simp only [Act.put, List.setIfInBounds_toArray, List.set_cons_zero, List.set_cons_succ]
            refine wpAny_all (rs := [3]) (by kernel_rfl) (by decide) (one_of7 ?_)
            refine any_skip7 rfl rfl (exec_store7 rfl rfl rfl s1) ?_
            simp only [Act.put, List.setIfInBounds_toArray, List.set_cons_zero, List.set_cons_succ]
            refine wpAny_all (rs := [4]) (by kernel_rfl) (by decide) (one_of7 ?_)
            refine any_val7 (.int .i64 0) 8 rfl rfl rfl (rfl) ?_
            simp only [Act.put, List.setIfInBounds_toArray, List.set_cons_zero, List.set_cons_succ]
            refine wpAny_done (by kernel_rfl) ?_ _
            go_wp2_with fail
            exact bodyPost_ret (results_row2_tmp rfl _ _ (w.heap.size + 1 + 1 + 1) (w.heap.size + 1 + 1 + 1 + 1) 30 32 _ _ _ _ rfl rfl (P2.at 3 rfl) (P2.at 4 rfl) Tryd.underlying30 rfl (by rw [fcells_size]; exact sizeFd) Tryd.underlying32 rfl (by rw [vis_size]; exact sizeVis)) rfl ⟨by rw [HF.out, HV.out, HE.out]; rfl, P2.below⟩
        · refine any_val7 (.agg (vis n x)) 55 rfl rfl rfl (exec_load7 rfl rfl b0) ?_
          simp only [Act.put, List.setIfInBounds_toArray, List.set_cons_zero, List.set_cons_succ]
          refine wpAny_all (rs := [0]) (by kernel_rfl) (by decide) (one_of7 ?_)
          refine any_val7 (.agg (fcells FF)) 54 rfl rfl rfl (exec_load7 rfl rfl a0) ?_
          simp only [Act.put, List.setIfInBounds_toArray, List.set_cons_zero, List.set_cons_succ]
          refine wpAny_all (rs := [2]) (by kernel_rfl) (by decide) (one_of7 ?_)
          refine any_skip7 rfl rfl (exec_store7 rfl rfl rfl s0) ?_
          simp only [Act.put, List.setIfInBounds_toArray, List.set_cons_zero, List.set_cons_succ]
          refine wpAny_all (rs := [3]) (by kernel_rfl) (by decide) (one_of7 ?_)
          refine any_skip7 rfl rfl (exec_store7 rfl rfl rfl s1) ?_
          simp only [Act.put, List.setIfInBounds_toArray, List.set_cons_zero, List.set_cons_succ]
          refine wpAny_all (rs := [4]) (by kernel_rfl) (by decide) (one_of7 ?_)
          refine any_val7 (.int .i64 0) 8 rfl rfl rfl (rfl) ?_
          simp only [Act.put, List.setIfInBounds_toArray, List.set_cons_zero, List.set_cons_succ]
          refine wpAny_done (by kernel_rfl) ?_ _
          go_wp2_with fail
          exact bodyPost_ret (results_row2_tmp rfl _ _ (w.heap.size + 1 + 1 + 1) (w.heap.size + 1 + 1 + 1 + 1) 30 32 _ _ _ _ rfl rfl (P2.at 3 rfl) (P2.at 4 rfl) Tryd.underlying30 rfl (by rw [fcells_size]; exact sizeFd) Tryd.underlying32 rfl (by rw [vis_size]; exact sizeVis)) rfl ⟨by rw [HF.out, HV.out, HE.out]; rfl, P2.below⟩
end Go.Proofs.YtaioflkonpommaaDoor
