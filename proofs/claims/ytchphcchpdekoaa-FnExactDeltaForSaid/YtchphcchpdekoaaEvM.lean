/- Chapter 8: the walks of exact laws (gen_evl.py). -/
import Derived.Test.YtchphcchpdekoaaEvD
namespace Go.Proofs.Ytchphcchpdekoaa
open Go.RowKit
set_option linter.unusedVariables false

set_option maxRecDepth 100000 in
set_option maxHeartbeats 8000000 in
theorem dltLaw_walk (AF : Option Addr) (cF : Nat) (L : List Ev) (AK : Option Addr) (cK : Nat) (KS : List Int) (w : World) (lf : L.length ≤ maxLen) (hS : evL w w.heap.size AF L) (lk : KS.length ≤ maxLen) (hK : IL w w.heap.size AK KS) : Calls Try.prog 6 #[.slice AF L.length cF, .slice AK KS.length cK] w fun e w' => e = .returned (.bool true) ∧ Below w.heap.size w w' := by
  have HS := Lib.hid hS; have HK := Lib.hid hK; clear hS hK
  by_cases hbk : (1048576 : Int) < KS.length
  · have Hl := Lib.hid lf; have Hk := Lib.hid lk; unfold maxLen at lf lk
    go_enter Try.func6, Try.ntmps6
    go_wp2_with fail
    go_ret
    exact ⟨rfl, Below.refl _ _⟩
  have lk1 : KS.length ≤ 1048576 := by omega
  by_cases hbig : (1048576 : Int) < L.length
  · have Hs := Lib.hid (show szI 1048576 L.length = -1 from if_pos hbig)
    clear hbig
    go_enter Try.func6, Try.ntmps6
    go_wp2_with fail
    refine (szEvent_any _ AF L.length cF 1048576 lf (by omega) (by omega)).mono ?_
    rintro e w1 ⟨rfl, hw⟩
    rw [hw, Hs.out]; clear hw
    go_wp2_with fail
    go_ret
    exact ⟨rfl, Below.refl _ _⟩
  have lf1 : L.length ≤ 1048576 := by omega
  have Hs := Lib.hid (show szI 1048576 L.length = 1048576 - L.length from if_neg hbig)
  have Hl := Lib.hid lf; have Hk := Lib.hid lk; clear lf lk
  generalize hV : deltaE L KS = RR
  have hRl : RR.length ≤ 1048576 := by have := deltaE_len L KS; rw [hV] at this; omega
  have HV := Lib.hid hV; clear hV
  go_enter Try.func6, Try.ntmps6
  go_wp2_with fail
  have zb := Below.refl w.heap.size w
  refine (szEvent_any _ AF L.length cF 1048576 Hl.out (by omega) (by omega)).mono ?_
  rintro e w1 ⟨rfl, hw⟩
  rw [hw, Hs.out]; clear hw w1
  have hnb : (L.length : Int) ≤ 1048576 := by omega
  have hnk : (KS.length : Int) ≤ 1048576 := by omega
  have hRm : RR.length ≤ maxLen := by unfold maxLen; omega
  have ZB := Lib.hid zb; clear zb
  go_wp2_with fail
  have zb := ZB.out; clear ZB
  refine (toEventS_any _ w.heap.size AF cF L lf1 (by omega) (HS.out.below zb)).mono ?_
  rintro e w2 ⟨xsA, xsn, rfl, hP, hb⟩
  have hsw2 := hb.size
  replace zb := bthen zb hb; clear hb
  have RI_xs := Lib.hid (OI.of_or hP); clear hP
  have ZB := Lib.hid zb; clear zb
  go_wp2_with fail
  have zb := ZB.out; clear ZB
  refine (toIntS_any _ w.heap.size AK cK KS lk1 (by have := zb.size; omega) (HK.out.below zb)).mono ?_
  rintro e w3 ⟨xkA, xkn, rfl, hP, hb⟩
  have kk := OI.call RI_xs.out hb; clear RI_xs; have RI_xs := Lib.hid kk; clear kk
  have hsw3 := hb.size
  replace zb := bthen zb hb; clear hb
  have RI_xk := Lib.hid (OI.of_or hP); clear hP
  have ZB := Lib.hid zb; clear zb
  go_wp2_with fail
  have zb := ZB.out; clear ZB
  refine (deltaS_any _ w3.heap.size w3.heap.size xsA xkA xsn xkn L KS lf1 Hk.out (Nat.le_refl _) (Nat.le_refl _) RI_xs.out.ev RI_xk.out.il).mono ?_
  rintro e w4 hans
  rw [HV.out] at hans
  obtain ⟨xrA, xrn, rfl, hP, hb⟩ := hans
  have kk := OI.call RI_xs.out hb; clear RI_xs; have RI_xs := Lib.hid kk; clear kk
  have kk := OI.call RI_xk.out hb; clear RI_xk; have RI_xk := Lib.hid kk; clear kk
  have hsw4 := hb.size
  replace zb := bthen zb hb; clear hb
  have RI_xr := Lib.hid (OI.of_or hP); clear hP
  have ZB := Lib.hid zb; clear zb
  go_wp2_with fail
  have zb := ZB.out; clear ZB
  refine (toEventS_any _ w.heap.size AF cF L lf1 (by omega) (HS.out.below zb)).mono ?_
  rintro e w5 ⟨xxA, xxn, rfl, hP, hb⟩
  have kk := OI.call RI_xs.out hb; clear RI_xs; have RI_xs := Lib.hid kk; clear kk
  have kk := OI.call RI_xk.out hb; clear RI_xk; have RI_xk := Lib.hid kk; clear kk
  have kk := OI.call RI_xr.out hb; clear RI_xr; have RI_xr := Lib.hid kk; clear kk
  have hsw5 := hb.size
  replace zb := bthen zb hb; clear hb
  have RI_xx := Lib.hid (OI.of_or hP); clear hP
  have ZB := Lib.hid zb; clear zb
  go_wp2_with fail
  have zb := ZB.out; clear ZB
  refine (toIntS_any _ w.heap.size AK cK KS lk1 (by have := zb.size; omega) (HK.out.below zb)).mono ?_
  rintro e w6 ⟨xcA, xcn, rfl, hP, hb⟩
  have kk := OI.call RI_xs.out hb; clear RI_xs; have RI_xs := Lib.hid kk; clear kk
  have kk := OI.call RI_xk.out hb; clear RI_xk; have RI_xk := Lib.hid kk; clear kk
  have kk := OI.call RI_xr.out hb; clear RI_xr; have RI_xr := Lib.hid kk; clear kk
  have kk := OI.call RI_xx.out hb; clear RI_xx; have RI_xx := Lib.hid kk; clear kk
  have hsw6 := hb.size
  replace zb := bthen zb hb; clear hb
  have RI_xc := Lib.hid (OI.of_or hP); clear hP
  have ZB := Lib.hid zb; clear zb
  go_wp2_with fail
  have zb := ZB.out; clear ZB
  refine (deltaI_any _ w6.heap.size w6.heap.size xxA xcA xxn xcn L KS lf1 Hk.out (Nat.le_refl _) (Nat.le_refl _) RI_xx.out.ev RI_xc.out.il).mono ?_
  rintro e w7 hans
  rw [HV.out] at hans
  obtain ⟨xgA, xgn, rfl, hP, hb⟩ := hans
  have kk := OI.call RI_xs.out hb; clear RI_xs; have RI_xs := Lib.hid kk; clear kk
  have kk := OI.call RI_xk.out hb; clear RI_xk; have RI_xk := Lib.hid kk; clear kk
  have kk := OI.call RI_xr.out hb; clear RI_xr; have RI_xr := Lib.hid kk; clear kk
  have kk := OI.call RI_xx.out hb; clear RI_xx; have RI_xx := Lib.hid kk; clear kk
  have kk := OI.call RI_xc.out hb; clear RI_xc; have RI_xc := Lib.hid kk; clear kk
  have hsw7 := hb.size
  replace zb := bthen zb hb; clear hb
  have RI_xg := Lib.hid (OI.of_or hP); clear hP
  have ZB := Lib.hid zb; clear zb
  go_wp2_with fail
  have zb := ZB.out; clear ZB
  refine (eqEventS_any _ w7.heap.size w7.heap.size xgA xrA xgn xrn RR hRm (Nat.le_refl _) (Nat.le_refl _) RI_xg.out.ev RI_xr.out.ev).mono ?_
  rintro e w8 ⟨rfl, hb⟩
  have kk := OI.call RI_xs.out hb; clear RI_xs; have RI_xs := Lib.hid kk; clear kk
  have kk := OI.call RI_xk.out hb; clear RI_xk; have RI_xk := Lib.hid kk; clear kk
  have kk := OI.call RI_xr.out hb; clear RI_xr; have RI_xr := Lib.hid kk; clear kk
  have kk := OI.call RI_xx.out hb; clear RI_xx; have RI_xx := Lib.hid kk; clear kk
  have kk := OI.call RI_xc.out hb; clear RI_xc; have RI_xc := Lib.hid kk; clear kk
  have kk := OI.call RI_xg.out hb; clear RI_xg; have RI_xg := Lib.hid kk; clear kk
  have hsw8 := hb.size
  replace zb := bthen zb hb; clear hb
  have ZB := Lib.hid zb; clear zb
  go_wp2_with fail
  have zb := ZB.out; clear ZB
  refine (toEventS_any _ w.heap.size AF cF L lf1 (by omega) (HS.out.below zb)).mono ?_
  rintro e w9 ⟨xyA, xyn, rfl, hP, hb⟩
  have kk := OI.call RI_xs.out hb; clear RI_xs; have RI_xs := Lib.hid kk; clear kk
  have kk := OI.call RI_xk.out hb; clear RI_xk; have RI_xk := Lib.hid kk; clear kk
  have kk := OI.call RI_xr.out hb; clear RI_xr; have RI_xr := Lib.hid kk; clear kk
  have kk := OI.call RI_xx.out hb; clear RI_xx; have RI_xx := Lib.hid kk; clear kk
  have kk := OI.call RI_xc.out hb; clear RI_xc; have RI_xc := Lib.hid kk; clear kk
  have kk := OI.call RI_xg.out hb; clear RI_xg; have RI_xg := Lib.hid kk; clear kk
  have hsw9 := hb.size
  replace zb := bthen zb hb; clear hb
  have RI_xy := Lib.hid (OI.of_or hP); clear hP
  have ZB := Lib.hid zb; clear zb
  go_wp2_with fail
  have zb := ZB.out; clear ZB
  refine (eqEventS_any _ w9.heap.size w9.heap.size xxA xyA xxn xyn L Hl.out (Nat.le_refl _) (Nat.le_refl _) RI_xx.out.ev RI_xy.out.ev).mono ?_
  rintro e w10 ⟨rfl, hb⟩
  have kk := OI.call RI_xs.out hb; clear RI_xs; have RI_xs := Lib.hid kk; clear kk
  have kk := OI.call RI_xk.out hb; clear RI_xk; have RI_xk := Lib.hid kk; clear kk
  have kk := OI.call RI_xr.out hb; clear RI_xr; have RI_xr := Lib.hid kk; clear kk
  have kk := OI.call RI_xx.out hb; clear RI_xx; have RI_xx := Lib.hid kk; clear kk
  have kk := OI.call RI_xc.out hb; clear RI_xc; have RI_xc := Lib.hid kk; clear kk
  have kk := OI.call RI_xg.out hb; clear RI_xg; have RI_xg := Lib.hid kk; clear kk
  have kk := OI.call RI_xy.out hb; clear RI_xy; have RI_xy := Lib.hid kk; clear kk
  have hsw10 := hb.size
  replace zb := bthen zb hb; clear hb
  have ZB := Lib.hid zb; clear zb
  go_wp2_with fail
  have zb := ZB.out; clear ZB
  refine (toIntS_any _ w.heap.size AK cK KS lk1 (by have := zb.size; omega) (HK.out.below zb)).mono ?_
  rintro e w11 ⟨xvA, xvn, rfl, hP, hb⟩
  have kk := OI.call RI_xs.out hb; clear RI_xs; have RI_xs := Lib.hid kk; clear kk
  have kk := OI.call RI_xk.out hb; clear RI_xk; have RI_xk := Lib.hid kk; clear kk
  have kk := OI.call RI_xr.out hb; clear RI_xr; have RI_xr := Lib.hid kk; clear kk
  have kk := OI.call RI_xx.out hb; clear RI_xx; have RI_xx := Lib.hid kk; clear kk
  have kk := OI.call RI_xc.out hb; clear RI_xc; have RI_xc := Lib.hid kk; clear kk
  have kk := OI.call RI_xg.out hb; clear RI_xg; have RI_xg := Lib.hid kk; clear kk
  have kk := OI.call RI_xy.out hb; clear RI_xy; have RI_xy := Lib.hid kk; clear kk
  have hsw11 := hb.size
  replace zb := bthen zb hb; clear hb
  have RI_xv := Lib.hid (OI.of_or hP); clear hP
  have ZB := Lib.hid zb; clear zb
  go_wp2_with fail
  have zb := ZB.out; clear ZB
  refine (eqIntS_any _ w11.heap.size w11.heap.size xcA xvA xcn xvn KS Hk.out (Nat.le_refl _) (Nat.le_refl _) RI_xc.out.il RI_xv.out.il).mono ?_
  rintro e w12 ⟨rfl, hb⟩
  have kk := OI.call RI_xs.out hb; clear RI_xs; have RI_xs := Lib.hid kk; clear kk
  have kk := OI.call RI_xk.out hb; clear RI_xk; have RI_xk := Lib.hid kk; clear kk
  have kk := OI.call RI_xr.out hb; clear RI_xr; have RI_xr := Lib.hid kk; clear kk
  have kk := OI.call RI_xx.out hb; clear RI_xx; have RI_xx := Lib.hid kk; clear kk
  have kk := OI.call RI_xc.out hb; clear RI_xc; have RI_xc := Lib.hid kk; clear kk
  have kk := OI.call RI_xg.out hb; clear RI_xg; have RI_xg := Lib.hid kk; clear kk
  have kk := OI.call RI_xy.out hb; clear RI_xy; have RI_xy := Lib.hid kk; clear kk
  have kk := OI.call RI_xv.out hb; clear RI_xv; have RI_xv := Lib.hid kk; clear kk
  have hsw12 := hb.size
  replace zb := bthen zb hb; clear hb
  have ZB := Lib.hid zb; clear zb
  go_wp2_with fail
  have zb := ZB.out; clear ZB
  refine (markEvent_any _ (w4.heap.size) xxA xxn L 1 lf1 (by omega) (by omega) RI_xx.out.or_).mono ?_
  rintro e w13 ⟨rfl, hF, hmk⟩
  have hw := within_marks RI_xx.out hmk
  have kk := oi_marked RI_xx.out hF evV_seq; clear RI_xx; have RI_xx := Lib.hid kk; clear kk hF hmk
  have kk := hw.oi RI_xs.out (by omega); clear RI_xs; have RI_xs := Lib.hid kk; clear kk
  have kk := hw.oi RI_xk.out (by omega); clear RI_xk; have RI_xk := Lib.hid kk; clear kk
  have kk := hw.oi RI_xr.out (by omega); clear RI_xr; have RI_xr := Lib.hid kk; clear kk
  have kk := hw.oi RI_xc.out (by omega); clear RI_xc; have RI_xc := Lib.hid kk; clear kk
  have kk := hw.oi RI_xg.out (by omega); clear RI_xg; have RI_xg := Lib.hid kk; clear kk
  have kk := hw.oi RI_xy.out (by omega); clear RI_xy; have RI_xy := Lib.hid kk; clear kk
  have kk := hw.oi RI_xv.out (by omega); clear RI_xv; have RI_xv := Lib.hid kk; clear kk
  replace zb := zb.trans (hw.below (B := w.heap.size) (by omega) (by omega))
  have hsw13 := hw.size
  clear hw
  have ZB := Lib.hid zb; clear zb
  go_wp2_with fail
  have zb := ZB.out; clear ZB
  refine (markInt_any _ (w5.heap.size) xcA xcn KS (1 + 7 * (L.length : Int)) lk1 (by omega) (by omega) RI_xc.out.or_).mono ?_
  rintro e w14 ⟨rfl, hF, hmk⟩
  have hw := within_marks RI_xc.out hmk
  have kk := oi_marked RI_xc.out hF intV_seq; clear RI_xc; have RI_xc := Lib.hid kk; clear kk hF hmk
  have kk := hw.oi RI_xs.out (by omega); clear RI_xs; have RI_xs := Lib.hid kk; clear kk
  have kk := hw.oi RI_xk.out (by omega); clear RI_xk; have RI_xk := Lib.hid kk; clear kk
  have kk := hw.oi RI_xr.out (by omega); clear RI_xr; have RI_xr := Lib.hid kk; clear kk
  have kk := hw.oi RI_xx.out (by omega); clear RI_xx; have RI_xx := Lib.hid kk; clear kk
  have kk := hw.oi RI_xg.out (by omega); clear RI_xg; have RI_xg := Lib.hid kk; clear kk
  have kk := hw.oi RI_xy.out (by omega); clear RI_xy; have RI_xy := Lib.hid kk; clear kk
  have kk := hw.oi RI_xv.out (by omega); clear RI_xv; have RI_xv := Lib.hid kk; clear kk
  replace zb := zb.trans (hw.below (B := w.heap.size) (by omega) (by omega))
  have hsw14 := hw.size
  clear hw
  have ZB := Lib.hid zb; clear zb
  go_wp2_with fail
  have zb := ZB.out; clear ZB
  refine (eqEventS_any _ w14.heap.size w14.heap.size xgA xrA xgn xrn RR hRm (Nat.le_refl _) (Nat.le_refl _) RI_xg.out.ev RI_xr.out.ev).mono ?_
  rintro e w15 ⟨rfl, hb⟩
  have kk := OI.call RI_xs.out hb; clear RI_xs; have RI_xs := Lib.hid kk; clear kk
  have kk := OI.call RI_xk.out hb; clear RI_xk; have RI_xk := Lib.hid kk; clear kk
  have kk := OI.call RI_xr.out hb; clear RI_xr; have RI_xr := Lib.hid kk; clear kk
  have kk := OI.call RI_xx.out hb; clear RI_xx; have RI_xx := Lib.hid kk; clear kk
  have kk := OI.call RI_xc.out hb; clear RI_xc; have RI_xc := Lib.hid kk; clear kk
  have kk := OI.call RI_xg.out hb; clear RI_xg; have RI_xg := Lib.hid kk; clear kk
  have kk := OI.call RI_xy.out hb; clear RI_xy; have RI_xy := Lib.hid kk; clear kk
  have kk := OI.call RI_xv.out hb; clear RI_xv; have RI_xv := Lib.hid kk; clear kk
  have hsw15 := hb.size
  replace zb := bthen zb hb; clear hb
  have ZB := Lib.hid zb; clear zb
  go_wp2_with fail
  have zb := ZB.out; clear ZB
  refine (markEvent_any _ (w6.heap.size) xgA xgn RR 1 hRl (by omega) (by omega) RI_xg.out.or_).mono ?_
  rintro e w16 ⟨rfl, hF, hmk⟩
  have hw := within_marks RI_xg.out hmk
  have kk := oi_marked RI_xg.out hF evV_seq; clear RI_xg; have RI_xg := Lib.hid kk; clear kk hF hmk
  have kk := hw.oi RI_xs.out (by omega); clear RI_xs; have RI_xs := Lib.hid kk; clear kk
  have kk := hw.oi RI_xk.out (by omega); clear RI_xk; have RI_xk := Lib.hid kk; clear kk
  have kk := hw.oi RI_xr.out (by omega); clear RI_xr; have RI_xr := Lib.hid kk; clear kk
  have kk := hw.oi RI_xx.out (by omega); clear RI_xx; have RI_xx := Lib.hid kk; clear kk
  have kk := hw.oi RI_xc.out (by omega); clear RI_xc; have RI_xc := Lib.hid kk; clear kk
  have kk := hw.oi RI_xy.out (by omega); clear RI_xy; have RI_xy := Lib.hid kk; clear kk
  have kk := hw.oi RI_xv.out (by omega); clear RI_xv; have RI_xv := Lib.hid kk; clear kk
  replace zb := zb.trans (hw.below (B := w.heap.size) (by omega) (by omega))
  have hsw16 := hw.size
  clear hw
  have ZB := Lib.hid zb; clear zb
  go_wp2_with fail
  have zb := ZB.out; clear ZB
  refine (heldEvent_any _ w16.heap.size xgA xgn RR.length 1 hRl (by omega) (by omega) (Nat.le_refl _) RI_xg.out.ev).mono ?_
  rintro e w17 ⟨rfl, hb⟩
  have kk := OI.call RI_xs.out hb; clear RI_xs; have RI_xs := Lib.hid kk; clear kk
  have kk := OI.call RI_xk.out hb; clear RI_xk; have RI_xk := Lib.hid kk; clear kk
  have kk := OI.call RI_xr.out hb; clear RI_xr; have RI_xr := Lib.hid kk; clear kk
  have kk := OI.call RI_xx.out hb; clear RI_xx; have RI_xx := Lib.hid kk; clear kk
  have kk := OI.call RI_xc.out hb; clear RI_xc; have RI_xc := Lib.hid kk; clear kk
  have kk := OI.call RI_xg.out hb; clear RI_xg; have RI_xg := Lib.hid kk; clear kk
  have kk := OI.call RI_xy.out hb; clear RI_xy; have RI_xy := Lib.hid kk; clear kk
  have kk := OI.call RI_xv.out hb; clear RI_xv; have RI_xv := Lib.hid kk; clear kk
  have hsw17 := hb.size
  replace zb := bthen zb hb; clear hb
  have nq : ((1 + 7 * (RR.length : Int)) != (1 + 7 * (RR.length : Int))) = false := by simp
  have ZB := Lib.hid zb; clear zb
  go_wp2_with fail
  have zb := ZB.out; clear ZB
  clear nq
  refine (toEventS_any _ w.heap.size AF cF L lf1 (by omega) (HS.out.below zb)).mono ?_
  rintro e w18 ⟨xzA, xzn, rfl, hP, hb⟩
  have kk := OI.call RI_xs.out hb; clear RI_xs; have RI_xs := Lib.hid kk; clear kk
  have kk := OI.call RI_xk.out hb; clear RI_xk; have RI_xk := Lib.hid kk; clear kk
  have kk := OI.call RI_xr.out hb; clear RI_xr; have RI_xr := Lib.hid kk; clear kk
  have kk := OI.call RI_xx.out hb; clear RI_xx; have RI_xx := Lib.hid kk; clear kk
  have kk := OI.call RI_xc.out hb; clear RI_xc; have RI_xc := Lib.hid kk; clear kk
  have kk := OI.call RI_xg.out hb; clear RI_xg; have RI_xg := Lib.hid kk; clear kk
  have kk := OI.call RI_xy.out hb; clear RI_xy; have RI_xy := Lib.hid kk; clear kk
  have kk := OI.call RI_xv.out hb; clear RI_xv; have RI_xv := Lib.hid kk; clear kk
  have hsw18 := hb.size
  replace zb := bthen zb hb; clear hb
  have RI_xz := Lib.hid (OI.of_or hP); clear hP
  have ZB := Lib.hid zb; clear zb
  go_wp2_with fail
  have zb := ZB.out; clear ZB
  refine (toIntS_any _ w.heap.size AK cK KS lk1 (by have := zb.size; omega) (HK.out.below zb)).mono ?_
  rintro e w19 ⟨xwA, xwn, rfl, hP, hb⟩
  have kk := OI.call RI_xs.out hb; clear RI_xs; have RI_xs := Lib.hid kk; clear kk
  have kk := OI.call RI_xk.out hb; clear RI_xk; have RI_xk := Lib.hid kk; clear kk
  have kk := OI.call RI_xr.out hb; clear RI_xr; have RI_xr := Lib.hid kk; clear kk
  have kk := OI.call RI_xx.out hb; clear RI_xx; have RI_xx := Lib.hid kk; clear kk
  have kk := OI.call RI_xc.out hb; clear RI_xc; have RI_xc := Lib.hid kk; clear kk
  have kk := OI.call RI_xg.out hb; clear RI_xg; have RI_xg := Lib.hid kk; clear kk
  have kk := OI.call RI_xy.out hb; clear RI_xy; have RI_xy := Lib.hid kk; clear kk
  have kk := OI.call RI_xv.out hb; clear RI_xv; have RI_xv := Lib.hid kk; clear kk
  have kk := OI.call RI_xz.out hb; clear RI_xz; have RI_xz := Lib.hid kk; clear kk
  have hsw19 := hb.size
  replace zb := bthen zb hb; clear hb
  have RI_xw := Lib.hid (OI.of_or hP); clear hP
  have ZB := Lib.hid zb; clear zb
  go_wp2_with fail
  have zb := ZB.out; clear ZB
  refine (deltaI_any _ w19.heap.size w19.heap.size xzA xwA xzn xwn L KS lf1 Hk.out (Nat.le_refl _) (Nat.le_refl _) RI_xz.out.ev RI_xw.out.il).mono ?_
  rintro e w20 hans
  rw [HV.out] at hans
  obtain ⟨xhA, xhn, rfl, hP, hb⟩ := hans
  have kk := OI.call RI_xs.out hb; clear RI_xs; have RI_xs := Lib.hid kk; clear kk
  have kk := OI.call RI_xk.out hb; clear RI_xk; have RI_xk := Lib.hid kk; clear kk
  have kk := OI.call RI_xr.out hb; clear RI_xr; have RI_xr := Lib.hid kk; clear kk
  have kk := OI.call RI_xx.out hb; clear RI_xx; have RI_xx := Lib.hid kk; clear kk
  have kk := OI.call RI_xc.out hb; clear RI_xc; have RI_xc := Lib.hid kk; clear kk
  have kk := OI.call RI_xg.out hb; clear RI_xg; have RI_xg := Lib.hid kk; clear kk
  have kk := OI.call RI_xy.out hb; clear RI_xy; have RI_xy := Lib.hid kk; clear kk
  have kk := OI.call RI_xv.out hb; clear RI_xv; have RI_xv := Lib.hid kk; clear kk
  have kk := OI.call RI_xz.out hb; clear RI_xz; have RI_xz := Lib.hid kk; clear kk
  have kk := OI.call RI_xw.out hb; clear RI_xw; have RI_xw := Lib.hid kk; clear kk
  have hsw20 := hb.size
  replace zb := bthen zb hb; clear hb
  have RI_xh := Lib.hid (OI.of_or hP); clear hP
  have ZB := Lib.hid zb; clear zb
  go_wp2_with fail
  have zb := ZB.out; clear ZB
  refine (eqEventS_any _ w20.heap.size w20.heap.size xhA xrA xhn xrn RR hRm (Nat.le_refl _) (Nat.le_refl _) RI_xh.out.ev RI_xr.out.ev).mono ?_
  rintro e w21 ⟨rfl, hb⟩
  have kk := OI.call RI_xs.out hb; clear RI_xs; have RI_xs := Lib.hid kk; clear kk
  have kk := OI.call RI_xk.out hb; clear RI_xk; have RI_xk := Lib.hid kk; clear kk
  have kk := OI.call RI_xr.out hb; clear RI_xr; have RI_xr := Lib.hid kk; clear kk
  have kk := OI.call RI_xx.out hb; clear RI_xx; have RI_xx := Lib.hid kk; clear kk
  have kk := OI.call RI_xc.out hb; clear RI_xc; have RI_xc := Lib.hid kk; clear kk
  have kk := OI.call RI_xg.out hb; clear RI_xg; have RI_xg := Lib.hid kk; clear kk
  have kk := OI.call RI_xy.out hb; clear RI_xy; have RI_xy := Lib.hid kk; clear kk
  have kk := OI.call RI_xv.out hb; clear RI_xv; have RI_xv := Lib.hid kk; clear kk
  have kk := OI.call RI_xz.out hb; clear RI_xz; have RI_xz := Lib.hid kk; clear kk
  have kk := OI.call RI_xw.out hb; clear RI_xw; have RI_xw := Lib.hid kk; clear kk
  have kk := OI.call RI_xh.out hb; clear RI_xh; have RI_xh := Lib.hid kk; clear kk
  have hsw21 := hb.size
  replace zb := bthen zb hb; clear hb
  have ZB := Lib.hid zb; clear zb
  go_wp2_with fail
  have zb := ZB.out; clear ZB
  refine (heldEvent_any _ w21.heap.size xgA xgn RR.length 1 hRl (by omega) (by omega) (Nat.le_refl _) RI_xg.out.ev).mono ?_
  rintro e w22 ⟨rfl, hb⟩
  have kk := OI.call RI_xs.out hb; clear RI_xs; have RI_xs := Lib.hid kk; clear kk
  have kk := OI.call RI_xk.out hb; clear RI_xk; have RI_xk := Lib.hid kk; clear kk
  have kk := OI.call RI_xr.out hb; clear RI_xr; have RI_xr := Lib.hid kk; clear kk
  have kk := OI.call RI_xx.out hb; clear RI_xx; have RI_xx := Lib.hid kk; clear kk
  have kk := OI.call RI_xc.out hb; clear RI_xc; have RI_xc := Lib.hid kk; clear kk
  have kk := OI.call RI_xg.out hb; clear RI_xg; have RI_xg := Lib.hid kk; clear kk
  have kk := OI.call RI_xy.out hb; clear RI_xy; have RI_xy := Lib.hid kk; clear kk
  have kk := OI.call RI_xv.out hb; clear RI_xv; have RI_xv := Lib.hid kk; clear kk
  have kk := OI.call RI_xz.out hb; clear RI_xz; have RI_xz := Lib.hid kk; clear kk
  have kk := OI.call RI_xw.out hb; clear RI_xw; have RI_xw := Lib.hid kk; clear kk
  have kk := OI.call RI_xh.out hb; clear RI_xh; have RI_xh := Lib.hid kk; clear kk
  have hsw22 := hb.size
  replace zb := bthen zb hb; clear hb
  have nq : ((1 + 7 * (RR.length : Int)) != (1 + 7 * (RR.length : Int))) = false := by simp
  have ZB := Lib.hid zb; clear zb
  go_wp2_with fail
  have zb := ZB.out; clear ZB
  go_ret
  exact ⟨rfl, zb⟩
end Go.Proofs.Ytchphcchpdekoaa
