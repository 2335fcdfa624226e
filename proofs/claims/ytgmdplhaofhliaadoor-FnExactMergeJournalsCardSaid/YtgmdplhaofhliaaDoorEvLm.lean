/- Chapter 8: the walks of exact laws (gen_evl.py). -/
import Derived.Test.YtgmdplhaofhliaaDoorEvUj
namespace Go.Proofs.YtgmdplhaofhliaaDoor
open Go.RowKit
set_option linter.unusedVariables false

set_option maxRecDepth 100000 in
set_option maxHeartbeats 8000000 in
theorem mrgLaw_walk (AF : Option Addr) (cF : Nat) (L : List Ev) (AK : Option Addr) (cK : Nat) (M : List Ev) (ad : Addr) (w : World) (lf : L.length ≤ maxLen) (hS : evL w w.heap.size AF L) (lk : M.length ≤ maxLen) (hK : evL w w.heap.size AK M) (hE : ErrV w ad) : Calls Tryd.prog 3 #[.slice AF L.length cF, .slice AK M.length cK] w fun e w' => e = .returned (.bool true) ∧ Below w.heap.size w w' := by
  have HS := Lib.hid hS; have HK := Lib.hid hK; have HE := Lib.hid hE; clear hS hK hE
  by_cases hbig : (1048576 : Int) < L.length
  · have Hs := Lib.hid (show szI 1048576 L.length = -1 from if_pos hbig)
    clear hbig
    go_enter Tryd.func3, Tryd.ntmps3
    go_wp2_with fail
    refine (szEvent_any _ AF L.length cF 1048576 lf (by omega) (by omega)).mono ?_
    rintro e w1 ⟨rfl, hw⟩
    rw [hw, Hs.out]; clear hw
    go_wp2_with fail
    go_ret
    exact ⟨rfl, Below.refl _ _⟩
  have lf1 : L.length ≤ 1048576 := by omega
  have Hs := Lib.hid (show szI 1048576 L.length = 1048576 - L.length from if_neg hbig)
  have hnb : (L.length : Int) ≤ 1048576 := by omega
  have hd0 : ¬ (1048576 : Int) - L.length < 0 := by omega
  by_cases hbk : (1048576 : Int) - L.length < M.length
  · have Hk := Lib.hid (show szI (1048576 - L.length) M.length = -1 from if_pos hbk)
    clear hbk hbig
    go_enter Tryd.func3, Tryd.ntmps3
    go_wp2_with fail
    refine (szEvent_any _ AF L.length cF 1048576 lf (by omega) (by omega)).mono ?_
    rintro e w1 ⟨rfl, hw⟩
    rw [hw, Hs.out]; clear hw
    go_wp2_with fail
    refine (szEvent_any _ AK M.length cK (1048576 - L.length) lk (by omega) (by omega)).mono ?_
    rintro e w2 ⟨rfl, hw⟩
    rw [hw, Hk.out]; clear hw
    go_wp2_with fail
    go_ret
    exact ⟨rfl, Below.refl _ _⟩
  have lk1 : M.length ≤ 1048576 := by omega
  have hnk : (M.length : Int) ≤ 1048576 := by omega
  have hd1 : ¬ (1048576 : Int) - L.length - M.length < 0 := by omega
  have Hs2 := Lib.hid (show szI (1048576 - L.length) M.length = 1048576 - L.length - M.length from if_neg hbk)
  have Hl := Lib.hid lf; have Hk := Lib.hid lk; clear hbig hbk
  obtain ⟨RR, V, hV⟩ : ∃ RR V, mergeE L M = (RR, V) := ⟨_, _, rfl⟩
  have hRl : RR.length ≤ 1048576 := by have := mergeE_len L M; rw [hV] at this; dsimp only at this; omega
  have HV := Lib.hid hV; clear hV
  go_enter Tryd.func3, Tryd.ntmps3
  go_wp2_with fail
  refine (szEvent_any _ AF L.length cF 1048576 Hl.out (by omega) (by omega)).mono ?_
  rintro e w1 ⟨rfl, hw⟩
  rw [hw, Hs.out]; clear hw w1
  go_wp2_with fail
  refine (szEvent_any _ AK M.length cK (1048576 - L.length) Hk.out (by omega) (by omega)).mono ?_
  rintro e w1 ⟨rfl, hw⟩
  rw [hw, Hs2.out]; clear hw w1
  clear lf lk
  have zb := Below.refl w.heap.size w
  have hRm : RR.length ≤ maxLen := by unfold maxLen; omega
  have ZB := Lib.hid zb; clear zb
  go_wp2_with fail
  have zb := ZB.out; clear ZB
  refine (toEventS_any _ w.heap.size AF cF L lf1 (by omega) (HS.out.below zb)).mono ?_
  rintro e w1 ⟨xsA, xsn, rfl, hP, hb⟩
  have hsw1 := hb.size
  replace zb := bthen zb hb; clear hb
  have RI_xs := Lib.hid (OI.of_or hP); clear hP
  have ZB := Lib.hid zb; clear zb
  go_wp2_with fail
  have zb := ZB.out; clear ZB
  refine (toEventS_any _ w.heap.size AK cK M lk1 (by have := zb.size; omega) (HK.out.below zb)).mono ?_
  rintro e w2 ⟨xkA, xkn, rfl, hP, hb⟩
  have kk := OI.call RI_xs.out hb; clear RI_xs; have RI_xs := Lib.hid kk; clear kk
  have hsw2 := hb.size
  replace zb := bthen zb hb; clear hb
  have RI_xk := Lib.hid (OI.of_or hP); clear hP
  have ZB := Lib.hid zb; clear zb
  go_wp2_with fail
  have zb := ZB.out; clear ZB
  refine (mergeS_any _ w2.heap.size w2.heap.size xsA xkA xsn xkn L M lf1 lk1 (Nat.le_refl _) (Nat.le_refl _) RI_xs.out.ev RI_xk.out.ev).mono ?_
  rintro e w3 hans
  rw [HV.out] at hans
  obtain ⟨xrA, xrn, _, rfl, hP, hb⟩ := hans
  dsimp only at hP
  have kk := OI.call RI_xs.out hb; clear RI_xs; have RI_xs := Lib.hid kk; clear kk
  have kk := OI.call RI_xk.out hb; clear RI_xk; have RI_xk := Lib.hid kk; clear kk
  have hsw3 := hb.size
  replace zb := bthen zb hb; clear hb
  have RI_xr := Lib.hid (OI.of_or hP); clear hP
  have ZB := Lib.hid zb; clear zb
  go_wp2_with fail
  have zb := ZB.out; clear ZB
  refine (toEventS_any _ w.heap.size AF cF L lf1 (by omega) (HS.out.below zb)).mono ?_
  rintro e w4 ⟨xxA, xxn, rfl, hP, hb⟩
  have kk := OI.call RI_xs.out hb; clear RI_xs; have RI_xs := Lib.hid kk; clear kk
  have kk := OI.call RI_xk.out hb; clear RI_xk; have RI_xk := Lib.hid kk; clear kk
  have kk := OI.call RI_xr.out hb; clear RI_xr; have RI_xr := Lib.hid kk; clear kk
  have hsw4 := hb.size
  replace zb := bthen zb hb; clear hb
  have RI_xx := Lib.hid (OI.of_or hP); clear hP
  have ZB := Lib.hid zb; clear zb
  go_wp2_with fail
  have zb := ZB.out; clear ZB
  refine (toEventS_any _ w.heap.size AK cK M lk1 (by have := zb.size; omega) (HK.out.below zb)).mono ?_
  rintro e w5 ⟨xcA, xcn, rfl, hP, hb⟩
  have kk := OI.call RI_xs.out hb; clear RI_xs; have RI_xs := Lib.hid kk; clear kk
  have kk := OI.call RI_xk.out hb; clear RI_xk; have RI_xk := Lib.hid kk; clear kk
  have kk := OI.call RI_xr.out hb; clear RI_xr; have RI_xr := Lib.hid kk; clear kk
  have kk := OI.call RI_xx.out hb; clear RI_xx; have RI_xx := Lib.hid kk; clear kk
  have hsw5 := hb.size
  replace zb := bthen zb hb; clear hb
  have RI_xc := Lib.hid (OI.of_or hP); clear hP
  have ZB := Lib.hid zb; clear zb
  go_wp2_with fail
  have zb := ZB.out; clear ZB
  refine (mergeI_any _ w5.heap.size w5.heap.size xxA xcA xxn xcn L M ad lf1 lk1 (Nat.le_refl _) (Nat.le_refl _) RI_xx.out.ev RI_xc.out.ev (HE.out.below zb)).mono ?_
  rintro e w6 hans
  rw [HV.out] at hans
  obtain ⟨xgA, xgn, _, rfl, hP, hb⟩ := hans
  dsimp only at hP
  have kk := OI.call RI_xs.out hb; clear RI_xs; have RI_xs := Lib.hid kk; clear kk
  have kk := OI.call RI_xk.out hb; clear RI_xk; have RI_xk := Lib.hid kk; clear kk
  have kk := OI.call RI_xr.out hb; clear RI_xr; have RI_xr := Lib.hid kk; clear kk
  have kk := OI.call RI_xx.out hb; clear RI_xx; have RI_xx := Lib.hid kk; clear kk
  have kk := OI.call RI_xc.out hb; clear RI_xc; have RI_xc := Lib.hid kk; clear kk
  have hsw6 := hb.size
  replace zb := bthen zb hb; clear hb
  have RI_xg := Lib.hid (OI.of_or hP); clear hP
  have ZB := Lib.hid zb; clear zb
  go_wp2_with fail
  have zb := ZB.out; clear ZB
  refine (eqEventS_any _ w6.heap.size w6.heap.size xgA xrA xgn xrn RR hRm (Nat.le_refl _) (Nat.le_refl _) RI_xg.out.ev RI_xr.out.ev).mono ?_
  rintro e w7 ⟨rfl, hb⟩
  have kk := OI.call RI_xs.out hb; clear RI_xs; have RI_xs := Lib.hid kk; clear kk
  have kk := OI.call RI_xk.out hb; clear RI_xk; have RI_xk := Lib.hid kk; clear kk
  have kk := OI.call RI_xr.out hb; clear RI_xr; have RI_xr := Lib.hid kk; clear kk
  have kk := OI.call RI_xx.out hb; clear RI_xx; have RI_xx := Lib.hid kk; clear kk
  have kk := OI.call RI_xc.out hb; clear RI_xc; have RI_xc := Lib.hid kk; clear kk
  have kk := OI.call RI_xg.out hb; clear RI_xg; have RI_xg := Lib.hid kk; clear kk
  have hsw7 := hb.size
  replace zb := bthen zb hb; clear hb
  have nv : (V != V) = false := by simp
  have ZB := Lib.hid zb; clear zb
  go_wp2_with fail
  have zb := ZB.out; clear ZB
  clear nv
  refine (toEventS_any _ w.heap.size AF cF L lf1 (by omega) (HS.out.below zb)).mono ?_
  rintro e w8 ⟨xyA, xyn, rfl, hP, hb⟩
  have kk := OI.call RI_xs.out hb; clear RI_xs; have RI_xs := Lib.hid kk; clear kk
  have kk := OI.call RI_xk.out hb; clear RI_xk; have RI_xk := Lib.hid kk; clear kk
  have kk := OI.call RI_xr.out hb; clear RI_xr; have RI_xr := Lib.hid kk; clear kk
  have kk := OI.call RI_xx.out hb; clear RI_xx; have RI_xx := Lib.hid kk; clear kk
  have kk := OI.call RI_xc.out hb; clear RI_xc; have RI_xc := Lib.hid kk; clear kk
  have kk := OI.call RI_xg.out hb; clear RI_xg; have RI_xg := Lib.hid kk; clear kk
  have hsw8 := hb.size
  replace zb := bthen zb hb; clear hb
  have RI_xy := Lib.hid (OI.of_or hP); clear hP
  have ZB := Lib.hid zb; clear zb
  go_wp2_with fail
  have zb := ZB.out; clear ZB
  refine (eqEventS_any _ w8.heap.size w8.heap.size xxA xyA xxn xyn L Hl.out (Nat.le_refl _) (Nat.le_refl _) RI_xx.out.ev RI_xy.out.ev).mono ?_
  rintro e w9 ⟨rfl, hb⟩
  have kk := OI.call RI_xs.out hb; clear RI_xs; have RI_xs := Lib.hid kk; clear kk
  have kk := OI.call RI_xk.out hb; clear RI_xk; have RI_xk := Lib.hid kk; clear kk
  have kk := OI.call RI_xr.out hb; clear RI_xr; have RI_xr := Lib.hid kk; clear kk
  have kk := OI.call RI_xx.out hb; clear RI_xx; have RI_xx := Lib.hid kk; clear kk
  have kk := OI.call RI_xc.out hb; clear RI_xc; have RI_xc := Lib.hid kk; clear kk
  have kk := OI.call RI_xg.out hb; clear RI_xg; have RI_xg := Lib.hid kk; clear kk
  have kk := OI.call RI_xy.out hb; clear RI_xy; have RI_xy := Lib.hid kk; clear kk
  have hsw9 := hb.size
  replace zb := bthen zb hb; clear hb
  have ZB := Lib.hid zb; clear zb
  go_wp2_with fail
  have zb := ZB.out; clear ZB
  refine (toEventS_any _ w.heap.size AK cK M lk1 (by have := zb.size; omega) (HK.out.below zb)).mono ?_
  rintro e w10 ⟨xvA, xvn, rfl, hP, hb⟩
  have kk := OI.call RI_xs.out hb; clear RI_xs; have RI_xs := Lib.hid kk; clear kk
  have kk := OI.call RI_xk.out hb; clear RI_xk; have RI_xk := Lib.hid kk; clear kk
  have kk := OI.call RI_xr.out hb; clear RI_xr; have RI_xr := Lib.hid kk; clear kk
  have kk := OI.call RI_xx.out hb; clear RI_xx; have RI_xx := Lib.hid kk; clear kk
  have kk := OI.call RI_xc.out hb; clear RI_xc; have RI_xc := Lib.hid kk; clear kk
  have kk := OI.call RI_xg.out hb; clear RI_xg; have RI_xg := Lib.hid kk; clear kk
  have kk := OI.call RI_xy.out hb; clear RI_xy; have RI_xy := Lib.hid kk; clear kk
  have hsw10 := hb.size
  replace zb := bthen zb hb; clear hb
  have RI_xv := Lib.hid (OI.of_or hP); clear hP
  have ZB := Lib.hid zb; clear zb
  go_wp2_with fail
  have zb := ZB.out; clear ZB
  refine (eqEventS_any _ w10.heap.size w10.heap.size xcA xvA xcn xvn M Hk.out (Nat.le_refl _) (Nat.le_refl _) RI_xc.out.ev RI_xv.out.ev).mono ?_
  rintro e w11 ⟨rfl, hb⟩
  have kk := OI.call RI_xs.out hb; clear RI_xs; have RI_xs := Lib.hid kk; clear kk
  have kk := OI.call RI_xk.out hb; clear RI_xk; have RI_xk := Lib.hid kk; clear kk
  have kk := OI.call RI_xr.out hb; clear RI_xr; have RI_xr := Lib.hid kk; clear kk
  have kk := OI.call RI_xx.out hb; clear RI_xx; have RI_xx := Lib.hid kk; clear kk
  have kk := OI.call RI_xc.out hb; clear RI_xc; have RI_xc := Lib.hid kk; clear kk
  have kk := OI.call RI_xg.out hb; clear RI_xg; have RI_xg := Lib.hid kk; clear kk
  have kk := OI.call RI_xy.out hb; clear RI_xy; have RI_xy := Lib.hid kk; clear kk
  have kk := OI.call RI_xv.out hb; clear RI_xv; have RI_xv := Lib.hid kk; clear kk
  have hsw11 := hb.size
  replace zb := bthen zb hb; clear hb
  have ZB := Lib.hid zb; clear zb
  go_wp2_with fail
  have zb := ZB.out; clear ZB
  refine (markEvent_any _ (w3.heap.size) xxA xxn L 1 lf1 (by omega) (by omega) RI_xx.out.or_).mono ?_
  rintro e w12 ⟨rfl, hF, hmk⟩
  have hw := within_marks RI_xx.out hmk
  have kk := oi_marked RI_xx.out hF evV_seq; clear RI_xx; have RI_xx := Lib.hid kk; clear kk hF hmk
  have kk := hw.oi RI_xs.out (by omega); clear RI_xs; have RI_xs := Lib.hid kk; clear kk
  have kk := hw.oi RI_xk.out (by omega); clear RI_xk; have RI_xk := Lib.hid kk; clear kk
  have kk := hw.oi RI_xr.out (by omega); clear RI_xr; have RI_xr := Lib.hid kk; clear kk
  have kk := hw.oi RI_xc.out (by omega); clear RI_xc; have RI_xc := Lib.hid kk; clear kk
  have kk := hw.oi RI_xg.out (by omega); clear RI_xg; have RI_xg := Lib.hid kk; clear kk
  have kk := hw.oi RI_xy.out (by omega); clear RI_xy; have RI_xy := Lib.hid kk; clear kk
  have kk := hw.oi RI_xv.out (by omega); clear RI_xv; have RI_xv := Lib.hid kk; clear kk
  replace zb := zb.trans (hw.below (B := w.heap.size) (by omega) (by omega))
  have hsw12 := hw.size
  clear hw
  have ZB := Lib.hid zb; clear zb
  go_wp2_with fail
  have zb := ZB.out; clear ZB
  refine (markEvent_any _ (w4.heap.size) xcA xcn M (1 + 7 * (L.length : Int)) lk1 (by omega) (by omega) RI_xc.out.or_).mono ?_
  rintro e w13 ⟨rfl, hF, hmk⟩
  have hw := within_marks RI_xc.out hmk
  have kk := oi_marked RI_xc.out hF evV_seq; clear RI_xc; have RI_xc := Lib.hid kk; clear kk hF hmk
  have kk := hw.oi RI_xs.out (by omega); clear RI_xs; have RI_xs := Lib.hid kk; clear kk
  have kk := hw.oi RI_xk.out (by omega); clear RI_xk; have RI_xk := Lib.hid kk; clear kk
  have kk := hw.oi RI_xr.out (by omega); clear RI_xr; have RI_xr := Lib.hid kk; clear kk
  have kk := hw.oi RI_xx.out (by omega); clear RI_xx; have RI_xx := Lib.hid kk; clear kk
  have kk := hw.oi RI_xg.out (by omega); clear RI_xg; have RI_xg := Lib.hid kk; clear kk
  have kk := hw.oi RI_xy.out (by omega); clear RI_xy; have RI_xy := Lib.hid kk; clear kk
  have kk := hw.oi RI_xv.out (by omega); clear RI_xv; have RI_xv := Lib.hid kk; clear kk
  replace zb := zb.trans (hw.below (B := w.heap.size) (by omega) (by omega))
  have hsw13 := hw.size
  clear hw
  have ZB := Lib.hid zb; clear zb
  go_wp2_with fail
  have zb := ZB.out; clear ZB
  refine (eqEventS_any _ w13.heap.size w13.heap.size xgA xrA xgn xrn RR hRm (Nat.le_refl _) (Nat.le_refl _) RI_xg.out.ev RI_xr.out.ev).mono ?_
  rintro e w14 ⟨rfl, hb⟩
  have kk := OI.call RI_xs.out hb; clear RI_xs; have RI_xs := Lib.hid kk; clear kk
  have kk := OI.call RI_xk.out hb; clear RI_xk; have RI_xk := Lib.hid kk; clear kk
  have kk := OI.call RI_xr.out hb; clear RI_xr; have RI_xr := Lib.hid kk; clear kk
  have kk := OI.call RI_xx.out hb; clear RI_xx; have RI_xx := Lib.hid kk; clear kk
  have kk := OI.call RI_xc.out hb; clear RI_xc; have RI_xc := Lib.hid kk; clear kk
  have kk := OI.call RI_xg.out hb; clear RI_xg; have RI_xg := Lib.hid kk; clear kk
  have kk := OI.call RI_xy.out hb; clear RI_xy; have RI_xy := Lib.hid kk; clear kk
  have kk := OI.call RI_xv.out hb; clear RI_xv; have RI_xv := Lib.hid kk; clear kk
  have hsw14 := hb.size
  replace zb := bthen zb hb; clear hb
  have nv : (V != V) = false := by simp
  have ZB := Lib.hid zb; clear zb
  go_wp2_with fail
  have zb := ZB.out; clear ZB
  clear nv
  refine (markEvent_any _ (w5.heap.size) xgA xgn RR 1 hRl (by omega) (by omega) RI_xg.out.or_).mono ?_
  rintro e w15 ⟨rfl, hF, hmk⟩
  have hw := within_marks RI_xg.out hmk
  have kk := oi_marked RI_xg.out hF evV_seq; clear RI_xg; have RI_xg := Lib.hid kk; clear kk hF hmk
  have kk := hw.oi RI_xs.out (by omega); clear RI_xs; have RI_xs := Lib.hid kk; clear kk
  have kk := hw.oi RI_xk.out (by omega); clear RI_xk; have RI_xk := Lib.hid kk; clear kk
  have kk := hw.oi RI_xr.out (by omega); clear RI_xr; have RI_xr := Lib.hid kk; clear kk
  have kk := hw.oi RI_xx.out (by omega); clear RI_xx; have RI_xx := Lib.hid kk; clear kk
  have kk := hw.oi RI_xc.out (by omega); clear RI_xc; have RI_xc := Lib.hid kk; clear kk
  have kk := hw.oi RI_xy.out (by omega); clear RI_xy; have RI_xy := Lib.hid kk; clear kk
  have kk := hw.oi RI_xv.out (by omega); clear RI_xv; have RI_xv := Lib.hid kk; clear kk
  replace zb := zb.trans (hw.below (B := w.heap.size) (by omega) (by omega))
  have hsw15 := hw.size
  clear hw
  have ZB := Lib.hid zb; clear zb
  go_wp2_with fail
  have zb := ZB.out; clear ZB
  refine (heldEvent_any _ w15.heap.size xgA xgn RR.length 1 hRl (by omega) (by omega) (Nat.le_refl _) RI_xg.out.ev).mono ?_
  rintro e w16 ⟨rfl, hb⟩
  have kk := OI.call RI_xs.out hb; clear RI_xs; have RI_xs := Lib.hid kk; clear kk
  have kk := OI.call RI_xk.out hb; clear RI_xk; have RI_xk := Lib.hid kk; clear kk
  have kk := OI.call RI_xr.out hb; clear RI_xr; have RI_xr := Lib.hid kk; clear kk
  have kk := OI.call RI_xx.out hb; clear RI_xx; have RI_xx := Lib.hid kk; clear kk
  have kk := OI.call RI_xc.out hb; clear RI_xc; have RI_xc := Lib.hid kk; clear kk
  have kk := OI.call RI_xg.out hb; clear RI_xg; have RI_xg := Lib.hid kk; clear kk
  have kk := OI.call RI_xy.out hb; clear RI_xy; have RI_xy := Lib.hid kk; clear kk
  have kk := OI.call RI_xv.out hb; clear RI_xv; have RI_xv := Lib.hid kk; clear kk
  have hsw16 := hb.size
  replace zb := bthen zb hb; clear hb
  have nq : ((1 + 7 * (RR.length : Int)) != (1 + 7 * (RR.length : Int))) = false := by simp
  have ZB := Lib.hid zb; clear zb
  go_wp2_with fail
  have zb := ZB.out; clear ZB
  clear nq
  refine (toEventS_any _ w.heap.size AF cF L lf1 (by omega) (HS.out.below zb)).mono ?_
  rintro e w17 ⟨xzA, xzn, rfl, hP, hb⟩
  have kk := OI.call RI_xs.out hb; clear RI_xs; have RI_xs := Lib.hid kk; clear kk
  have kk := OI.call RI_xk.out hb; clear RI_xk; have RI_xk := Lib.hid kk; clear kk
  have kk := OI.call RI_xr.out hb; clear RI_xr; have RI_xr := Lib.hid kk; clear kk
  have kk := OI.call RI_xx.out hb; clear RI_xx; have RI_xx := Lib.hid kk; clear kk
  have kk := OI.call RI_xc.out hb; clear RI_xc; have RI_xc := Lib.hid kk; clear kk
  have kk := OI.call RI_xg.out hb; clear RI_xg; have RI_xg := Lib.hid kk; clear kk
  have kk := OI.call RI_xy.out hb; clear RI_xy; have RI_xy := Lib.hid kk; clear kk
  have kk := OI.call RI_xv.out hb; clear RI_xv; have RI_xv := Lib.hid kk; clear kk
  have hsw17 := hb.size
  replace zb := bthen zb hb; clear hb
  have RI_xz := Lib.hid (OI.of_or hP); clear hP
  have ZB := Lib.hid zb; clear zb
  go_wp2_with fail
  have zb := ZB.out; clear ZB
  refine (toEventS_any _ w.heap.size AK cK M lk1 (by have := zb.size; omega) (HK.out.below zb)).mono ?_
  rintro e w18 ⟨xwA, xwn, rfl, hP, hb⟩
  have kk := OI.call RI_xs.out hb; clear RI_xs; have RI_xs := Lib.hid kk; clear kk
  have kk := OI.call RI_xk.out hb; clear RI_xk; have RI_xk := Lib.hid kk; clear kk
  have kk := OI.call RI_xr.out hb; clear RI_xr; have RI_xr := Lib.hid kk; clear kk
  have kk := OI.call RI_xx.out hb; clear RI_xx; have RI_xx := Lib.hid kk; clear kk
  have kk := OI.call RI_xc.out hb; clear RI_xc; have RI_xc := Lib.hid kk; clear kk
  have kk := OI.call RI_xg.out hb; clear RI_xg; have RI_xg := Lib.hid kk; clear kk
  have kk := OI.call RI_xy.out hb; clear RI_xy; have RI_xy := Lib.hid kk; clear kk
  have kk := OI.call RI_xv.out hb; clear RI_xv; have RI_xv := Lib.hid kk; clear kk
  have kk := OI.call RI_xz.out hb; clear RI_xz; have RI_xz := Lib.hid kk; clear kk
  have hsw18 := hb.size
  replace zb := bthen zb hb; clear hb
  have RI_xw := Lib.hid (OI.of_or hP); clear hP
  have ZB := Lib.hid zb; clear zb
  go_wp2_with fail
  have zb := ZB.out; clear ZB
  refine (mergeI_any _ w18.heap.size w18.heap.size xzA xwA xzn xwn L M ad lf1 lk1 (Nat.le_refl _) (Nat.le_refl _) RI_xz.out.ev RI_xw.out.ev (HE.out.below zb)).mono ?_
  rintro e w19 hans
  rw [HV.out] at hans
  obtain ⟨xhA, xhn, _, rfl, hP, hb⟩ := hans
  dsimp only at hP
  have kk := OI.call RI_xs.out hb; clear RI_xs; have RI_xs := Lib.hid kk; clear kk
  have kk := OI.call RI_xk.out hb; clear RI_xk; have RI_xk := Lib.hid kk; clear kk
  have kk := OI.call RI_xr.out hb; clear RI_xr; have RI_xr := Lib.hid kk; clear kk
  have kk := OI.call RI_xx.out hb; clear RI_xx; have RI_xx := Lib.hid kk; clear kk
  have kk := OI.call RI_xc.out hb; clear RI_xc; have RI_xc := Lib.hid kk; clear kk
  have kk := OI.call RI_xg.out hb; clear RI_xg; have RI_xg := Lib.hid kk; clear kk
  have kk := OI.call RI_xy.out hb; clear RI_xy; have RI_xy := Lib.hid kk; clear kk
  have kk := OI.call RI_xv.out hb; clear RI_xv; have RI_xv := Lib.hid kk; clear kk
  have kk := OI.call RI_xz.out hb; clear RI_xz; have RI_xz := Lib.hid kk; clear kk
  have kk := OI.call RI_xw.out hb; clear RI_xw; have RI_xw := Lib.hid kk; clear kk
  have hsw19 := hb.size
  replace zb := bthen zb hb; clear hb
  have RI_xh := Lib.hid (OI.of_or hP); clear hP
  have ZB := Lib.hid zb; clear zb
  go_wp2_with fail
  have zb := ZB.out; clear ZB
  refine (eqEventS_any _ w19.heap.size w19.heap.size xhA xrA xhn xrn RR hRm (Nat.le_refl _) (Nat.le_refl _) RI_xh.out.ev RI_xr.out.ev).mono ?_
  rintro e w20 ⟨rfl, hb⟩
  have kk := OI.call RI_xs.out hb; clear RI_xs; have RI_xs := Lib.hid kk; clear kk
  have kk := OI.call RI_xk.out hb; clear RI_xk; have RI_xk := Lib.hid kk; clear kk
  have kk := OI.call RI_xr.out hb; clear RI_xr; have RI_xr := Lib.hid kk; clear kk
  have kk := OI.call RI_xx.out hb; clear RI_xx; have RI_xx := Lib.hid kk; clear kk
  have kk := OI.call RI_xc.out hb; clear RI_xc; have RI_xc := Lib.hid kk; clear kk
  have kk := OI.call RI_xg.out hb; clear RI_xg; have RI_xg := Lib.hid kk; clear kk
  have kk := OI.call RI_xy.out hb; clear RI_xy; have RI_xy := Lib.hid kk; clear kk
  have kk := OI.call RI_xv.out hb; clear RI_xv; have RI_xv := Lib.hid kk; clear kk
  have kk := OI.call RI_xz.out hb; clear RI_xz; have RI_xz := Lib.hid kk; clear kk
  have kk := OI.call RI_xw.out hb; clear RI_xw; have RI_xw := Lib.hid kk; clear kk
  have kk := OI.call RI_xh.out hb; clear RI_xh; have RI_xh := Lib.hid kk; clear kk
  have hsw20 := hb.size
  replace zb := bthen zb hb; clear hb
  have nv : (V != V) = false := by simp
  have ZB := Lib.hid zb; clear zb
  go_wp2_with fail
  have zb := ZB.out; clear ZB
  clear nv
  refine (heldEvent_any _ w20.heap.size xgA xgn RR.length 1 hRl (by omega) (by omega) (Nat.le_refl _) RI_xg.out.ev).mono ?_
  rintro e w21 ⟨rfl, hb⟩
  have kk := OI.call RI_xs.out hb; clear RI_xs; have RI_xs := Lib.hid kk; clear kk
  have kk := OI.call RI_xk.out hb; clear RI_xk; have RI_xk := Lib.hid kk; clear kk
  have kk := OI.call RI_xr.out hb; clear RI_xr; have RI_xr := Lib.hid kk; clear kk
  have kk := OI.call RI_xx.out hb; clear RI_xx; have RI_xx := Lib.hid kk; clear kk
  have kk := OI.call RI_xc.out hb; clear RI_xc; have RI_xc := Lib.hid kk; clear kk
  have kk := OI.call RI_xg.out hb; clear RI_xg; have RI_xg := Lib.hid kk; clear kk
  have kk := OI.call RI_xy.out hb; clear RI_xy; have RI_xy := Lib.hid kk; clear kk
  have kk := OI.call RI_xv.out hb; clear RI_xv; have RI_xv := Lib.hid kk; clear kk
  have kk := OI.call RI_xz.out hb; clear RI_xz; have RI_xz := Lib.hid kk; clear kk
  have kk := OI.call RI_xw.out hb; clear RI_xw; have RI_xw := Lib.hid kk; clear kk
  have kk := OI.call RI_xh.out hb; clear RI_xh; have RI_xh := Lib.hid kk; clear kk
  have hsw21 := hb.size
  replace zb := bthen zb hb; clear hb
  have nq : ((1 + 7 * (RR.length : Int)) != (1 + 7 * (RR.length : Int))) = false := by simp
  have ZB := Lib.hid zb; clear zb
  go_wp2_with fail
  have zb := ZB.out; clear ZB
  go_ret
  exact ⟨rfl, zb⟩
end Go.Proofs.YtgmdplhaofhliaaDoor
