/- Chapter 8: the walks of exact laws (gen_evl.py). -/
import Derived.Test.YtchphcchpdekoaaEvAp
import Derived.Test.YtchphcchpdekoaaEvCp
namespace Go.Proofs.Ytchphcchpdekoaa
open Go.RowKit
set_option linter.unusedVariables false

theorem addE_len8 {l : List Ev} {nd kd pa a b : Int} (hl : l.length ≤ 1048576) : (addE l nd kd pa a b).1.length ≤ 1048576 := by
  unfold addE; split
  · rename_i h; simp only [Bool.and_eq_true] at h; have := jrn_len h.2; dsimp only; omega
  · exact hl
set_option maxRecDepth 100000 in
set_option maxHeartbeats 8000000 in
theorem adeLaw_walk (AF : Option Addr) (cF : Nat) (L : List Ev) (nd kd pa a b9 : Int) (w : World) (lf : L.length ≤ maxLen) (hS : evL w w.heap.size AF L) : Calls Try.prog 5 #[.slice AF L.length cF, .int .i64 nd, .int .i64 kd, .int .i64 pa, .int .i64 a, .int .i64 b9] w fun e w' => e = .returned (.bool true) ∧ Below w.heap.size w w' := by
  have HS := Lib.hid hS; clear hS
  by_cases hbig : (1048576 : Int) < L.length
  · have Hs := Lib.hid (show szI 1048576 L.length = -1 from if_pos hbig)
    go_enter Try.func5, Try.ntmps5
    go_wp2_with fail
    refine (szEvent_any _ AF L.length cF 1048576 lf (by omega) (by omega)).mono ?_
    rintro e w1 ⟨rfl, hw⟩
    rw [hw, Hs.out]; clear hw
    go_wp2_with fail
    go_ret
    exact ⟨rfl, Below.refl _ _⟩
  have lf1 : L.length ≤ 1048576 := by omega
  have Hs := Lib.hid (show szI 1048576 L.length = 1048576 - L.length from if_neg hbig)
  have Hl := Lib.hid lf; clear lf
  obtain ⟨RR, V, hV⟩ : ∃ RR V, addE L nd kd pa a b9 = (RR, V) := ⟨_, _, rfl⟩
  have hRl : RR.length ≤ 1048576 := by have := addE_len8 (nd := nd) (kd := kd) (pa := pa) (a := a) (b := b9) lf1; rw [hV] at this; exact this
  have HV := Lib.hid hV; clear hV
  go_enter Try.func5, Try.ntmps5
  go_wp2_with fail
  have zb := Below.refl w.heap.size w
  refine (szEvent_any _ AF L.length cF 1048576 Hl.out (by omega) (by omega)).mono ?_
  rintro e w1 ⟨rfl, hw⟩
  rw [hw, Hs.out]; clear hw w1
  have hnb : (L.length : Int) ≤ 1048576 := by omega
  have ZB := Lib.hid zb; clear zb
  go_wp2_with fail
  have zb := ZB.out; clear ZB
  refine (toEventS_cap _ w.heap.size AF cF L lf1 (by omega) (HS.out.below zb)).mono ?_
  rintro e w2 ⟨xsA, xsn, xsc, rfl, hP, hb⟩
  have hsw2 := hb.size
  replace zb := bthen zb hb; clear hb
  have RI_xs := Lib.hid (OI.of_or hP); clear hP
  have ZB := Lib.hid zb; clear zb
  go_wp2_with fail
  have zb := ZB.out; clear ZB
  refine (addS_any8 _ w2.heap.size xsA xsn L nd kd pa a b9 lf1 xsc (Nat.le_refl _) RI_xs.out.ev).mono ?_
  rintro e w3 hans
  rw [HV.out] at hans
  obtain ⟨xrA, xrn, _, rfl, hP, hb⟩ := hans
  dsimp only at hP
  have kk := OI.call RI_xs.out hb; clear RI_xs; have RI_xs := Lib.hid kk; clear kk
  have hsw3 := hb.size
  replace zb := bthen zb hb; clear hb
  have RI_xr := Lib.hid (OI.of_or hP); clear hP
  have ZB := Lib.hid zb; clear zb
  go_wp2_with fail
  have zb := ZB.out; clear ZB
  refine (toEventS_cap _ w.heap.size AF cF L lf1 (by omega) (HS.out.below zb)).mono ?_
  rintro e w4 ⟨xxA, xxn, xxc, rfl, hP, hb⟩
  have kk := OI.call RI_xs.out hb; clear RI_xs; have RI_xs := Lib.hid kk; clear kk
  have kk := OI.call RI_xr.out hb; clear RI_xr; have RI_xr := Lib.hid kk; clear kk
  have hsw4 := hb.size
  replace zb := bthen zb hb; clear hb
  have RI_xx := Lib.hid (OI.of_or hP); clear hP
  have ZB := Lib.hid zb; clear zb
  go_wp2_with fail
  have zb := ZB.out; clear ZB
  refine (addP_any _ w4.heap.size xxA xxn L nd kd pa a b9 lf1 (Nat.le_refl _) RI_xx.out.ev).mono ?_
  rintro e w5 hans
  rw [HV.out] at hans
  obtain ⟨xgA, xgn, _, rfl, hP, hb⟩ := hans
  dsimp only at hP
  have kk := OI.call RI_xs.out hb; clear RI_xs; have RI_xs := Lib.hid kk; clear kk
  have kk := OI.call RI_xr.out hb; clear RI_xr; have RI_xr := Lib.hid kk; clear kk
  have kk := OI.call RI_xx.out hb; clear RI_xx; have RI_xx := Lib.hid kk; clear kk
  have hsw5 := hb.size
  replace zb := bthen zb hb; clear hb
  have RI_xg := Lib.hid (OI.of_or hP); clear hP
  have hRm : RR.length ≤ maxLen := by unfold maxLen; omega
  have ZB := Lib.hid zb; clear zb
  go_wp2_with fail
  have zb := ZB.out; clear ZB
  refine (eqEventS_any _ w5.heap.size w5.heap.size xgA xrA xgn xrn RR hRm (Nat.le_refl _) (Nat.le_refl _) RI_xg.out.ev RI_xr.out.ev).mono ?_
  rintro e w6 ⟨rfl, hb⟩
  have kk := OI.call RI_xs.out hb; clear RI_xs; have RI_xs := Lib.hid kk; clear kk
  have kk := OI.call RI_xr.out hb; clear RI_xr; have RI_xr := Lib.hid kk; clear kk
  have kk := OI.call RI_xx.out hb; clear RI_xx; have RI_xx := Lib.hid kk; clear kk
  have kk := OI.call RI_xg.out hb; clear RI_xg; have RI_xg := Lib.hid kk; clear kk
  have hsw6 := hb.size
  replace zb := bthen zb hb; clear hb
  have nv : (V != V) = false := by simp
  have ZB := Lib.hid zb; clear zb
  go_wp2_with fail
  have zb := ZB.out; clear ZB
  clear nv
  refine (toEventS_cap _ w.heap.size AF cF L lf1 (by omega) (HS.out.below zb)).mono ?_
  rintro e w7 ⟨xyA, xyn, xyc, rfl, hP, hb⟩
  have kk := OI.call RI_xs.out hb; clear RI_xs; have RI_xs := Lib.hid kk; clear kk
  have kk := OI.call RI_xr.out hb; clear RI_xr; have RI_xr := Lib.hid kk; clear kk
  have kk := OI.call RI_xx.out hb; clear RI_xx; have RI_xx := Lib.hid kk; clear kk
  have kk := OI.call RI_xg.out hb; clear RI_xg; have RI_xg := Lib.hid kk; clear kk
  have hsw7 := hb.size
  replace zb := bthen zb hb; clear hb
  have RI_xy := Lib.hid (OI.of_or hP); clear hP
  have ZB := Lib.hid zb; clear zb
  go_wp2_with fail
  have zb := ZB.out; clear ZB
  refine (eqEventS_any _ w7.heap.size w7.heap.size xxA xyA xxn xyn L Hl.out (Nat.le_refl _) (Nat.le_refl _) RI_xx.out.ev RI_xy.out.ev).mono ?_
  rintro e w8 ⟨rfl, hb⟩
  have kk := OI.call RI_xs.out hb; clear RI_xs; have RI_xs := Lib.hid kk; clear kk
  have kk := OI.call RI_xr.out hb; clear RI_xr; have RI_xr := Lib.hid kk; clear kk
  have kk := OI.call RI_xx.out hb; clear RI_xx; have RI_xx := Lib.hid kk; clear kk
  have kk := OI.call RI_xg.out hb; clear RI_xg; have RI_xg := Lib.hid kk; clear kk
  have kk := OI.call RI_xy.out hb; clear RI_xy; have RI_xy := Lib.hid kk; clear kk
  have hsw8 := hb.size
  replace zb := bthen zb hb; clear hb
  have ZB := Lib.hid zb; clear zb
  go_wp2_with fail
  have zb := ZB.out; clear ZB
  refine (markEvent_any _ (w3.heap.size) xxA xxn L 1 lf1 (by omega) (by omega) RI_xx.out.or_).mono ?_
  rintro e w9 ⟨rfl, hF, hmk⟩
  have hw := within_marks RI_xx.out hmk
  have kk := oi_marked RI_xx.out hF evV_seq; clear RI_xx; have RI_xx := Lib.hid kk; clear kk hF hmk
  have kk := hw.oi RI_xs.out (by omega); clear RI_xs; have RI_xs := Lib.hid kk; clear kk
  have kk := hw.oi RI_xr.out (by omega); clear RI_xr; have RI_xr := Lib.hid kk; clear kk
  have kk := hw.oi RI_xg.out (by omega); clear RI_xg; have RI_xg := Lib.hid kk; clear kk
  have kk := hw.oi RI_xy.out (by omega); clear RI_xy; have RI_xy := Lib.hid kk; clear kk
  replace zb := zb.trans (hw.below (B := w.heap.size) (by omega) (by omega))
  have hsw9 := hw.size
  clear hw
  have ZB := Lib.hid zb; clear zb
  go_wp2_with fail
  have zb := ZB.out; clear ZB
  refine (eqEventS_any _ w9.heap.size w9.heap.size xgA xrA xgn xrn RR hRm (Nat.le_refl _) (Nat.le_refl _) RI_xg.out.ev RI_xr.out.ev).mono ?_
  rintro e w10 ⟨rfl, hb⟩
  have kk := OI.call RI_xs.out hb; clear RI_xs; have RI_xs := Lib.hid kk; clear kk
  have kk := OI.call RI_xr.out hb; clear RI_xr; have RI_xr := Lib.hid kk; clear kk
  have kk := OI.call RI_xx.out hb; clear RI_xx; have RI_xx := Lib.hid kk; clear kk
  have kk := OI.call RI_xg.out hb; clear RI_xg; have RI_xg := Lib.hid kk; clear kk
  have kk := OI.call RI_xy.out hb; clear RI_xy; have RI_xy := Lib.hid kk; clear kk
  have hsw10 := hb.size
  replace zb := bthen zb hb; clear hb
  have nv : (V != V) = false := by simp
  have ZB := Lib.hid zb; clear zb
  go_wp2_with fail
  have zb := ZB.out; clear ZB
  clear nv
  refine (markEvent_any _ (w4.heap.size) xgA xgn RR 1 hRl (by omega) (by omega) RI_xg.out.or_).mono ?_
  rintro e w11 ⟨rfl, hF, hmk⟩
  have hw := within_marks RI_xg.out hmk
  have kk := oi_marked RI_xg.out hF evV_seq; clear RI_xg; have RI_xg := Lib.hid kk; clear kk hF hmk
  have kk := hw.oi RI_xs.out (by omega); clear RI_xs; have RI_xs := Lib.hid kk; clear kk
  have kk := hw.oi RI_xr.out (by omega); clear RI_xr; have RI_xr := Lib.hid kk; clear kk
  have kk := hw.oi RI_xx.out (by omega); clear RI_xx; have RI_xx := Lib.hid kk; clear kk
  have kk := hw.oi RI_xy.out (by omega); clear RI_xy; have RI_xy := Lib.hid kk; clear kk
  replace zb := zb.trans (hw.below (B := w.heap.size) (by omega) (by omega))
  have hsw11 := hw.size
  clear hw
  have ZB := Lib.hid zb; clear zb
  go_wp2_with fail
  have zb := ZB.out; clear ZB
  refine (heldEvent_any _ w11.heap.size xgA xgn RR.length 1 hRl (by omega) (by omega) (Nat.le_refl _) RI_xg.out.ev).mono ?_
  rintro e w12 ⟨rfl, hb⟩
  have kk := OI.call RI_xs.out hb; clear RI_xs; have RI_xs := Lib.hid kk; clear kk
  have kk := OI.call RI_xr.out hb; clear RI_xr; have RI_xr := Lib.hid kk; clear kk
  have kk := OI.call RI_xx.out hb; clear RI_xx; have RI_xx := Lib.hid kk; clear kk
  have kk := OI.call RI_xg.out hb; clear RI_xg; have RI_xg := Lib.hid kk; clear kk
  have kk := OI.call RI_xy.out hb; clear RI_xy; have RI_xy := Lib.hid kk; clear kk
  have hsw12 := hb.size
  replace zb := bthen zb hb; clear hb
  have nq : ((1 + 7 * (RR.length : Int)) != (1 + 7 * (RR.length : Int))) = false := by simp
  have ZB := Lib.hid zb; clear zb
  go_wp2_with fail
  have zb := ZB.out; clear ZB
  clear nq
  refine (toEventS_cap _ w.heap.size AF cF L lf1 (by omega) (HS.out.below zb)).mono ?_
  rintro e w13 ⟨xzA, xzn, xzc, rfl, hP, hb⟩
  have kk := OI.call RI_xs.out hb; clear RI_xs; have RI_xs := Lib.hid kk; clear kk
  have kk := OI.call RI_xr.out hb; clear RI_xr; have RI_xr := Lib.hid kk; clear kk
  have kk := OI.call RI_xx.out hb; clear RI_xx; have RI_xx := Lib.hid kk; clear kk
  have kk := OI.call RI_xg.out hb; clear RI_xg; have RI_xg := Lib.hid kk; clear kk
  have kk := OI.call RI_xy.out hb; clear RI_xy; have RI_xy := Lib.hid kk; clear kk
  have hsw13 := hb.size
  replace zb := bthen zb hb; clear hb
  have RI_xz := Lib.hid (OI.of_or hP); clear hP
  have ZB := Lib.hid zb; clear zb
  go_wp2_with fail
  have zb := ZB.out; clear ZB
  refine (addP_any _ w13.heap.size xzA xzn L nd kd pa a b9 lf1 (Nat.le_refl _) RI_xz.out.ev).mono ?_
  rintro e w14 hans
  rw [HV.out] at hans
  obtain ⟨xhA, xhn, _, rfl, hP, hb⟩ := hans
  dsimp only at hP
  have kk := OI.call RI_xs.out hb; clear RI_xs; have RI_xs := Lib.hid kk; clear kk
  have kk := OI.call RI_xr.out hb; clear RI_xr; have RI_xr := Lib.hid kk; clear kk
  have kk := OI.call RI_xx.out hb; clear RI_xx; have RI_xx := Lib.hid kk; clear kk
  have kk := OI.call RI_xg.out hb; clear RI_xg; have RI_xg := Lib.hid kk; clear kk
  have kk := OI.call RI_xy.out hb; clear RI_xy; have RI_xy := Lib.hid kk; clear kk
  have kk := OI.call RI_xz.out hb; clear RI_xz; have RI_xz := Lib.hid kk; clear kk
  have hsw14 := hb.size
  replace zb := bthen zb hb; clear hb
  have RI_xh := Lib.hid (OI.of_or hP); clear hP
  have ZB := Lib.hid zb; clear zb
  go_wp2_with fail
  have zb := ZB.out; clear ZB
  refine (eqEventS_any _ w14.heap.size w14.heap.size xhA xrA xhn xrn RR hRm (Nat.le_refl _) (Nat.le_refl _) RI_xh.out.ev RI_xr.out.ev).mono ?_
  rintro e w15 ⟨rfl, hb⟩
  have kk := OI.call RI_xs.out hb; clear RI_xs; have RI_xs := Lib.hid kk; clear kk
  have kk := OI.call RI_xr.out hb; clear RI_xr; have RI_xr := Lib.hid kk; clear kk
  have kk := OI.call RI_xx.out hb; clear RI_xx; have RI_xx := Lib.hid kk; clear kk
  have kk := OI.call RI_xg.out hb; clear RI_xg; have RI_xg := Lib.hid kk; clear kk
  have kk := OI.call RI_xy.out hb; clear RI_xy; have RI_xy := Lib.hid kk; clear kk
  have kk := OI.call RI_xz.out hb; clear RI_xz; have RI_xz := Lib.hid kk; clear kk
  have kk := OI.call RI_xh.out hb; clear RI_xh; have RI_xh := Lib.hid kk; clear kk
  have hsw15 := hb.size
  replace zb := bthen zb hb; clear hb
  have nv : (V != V) = false := by simp
  have ZB := Lib.hid zb; clear zb
  go_wp2_with fail
  have zb := ZB.out; clear ZB
  clear nv
  refine (heldEvent_any _ w15.heap.size xgA xgn RR.length 1 hRl (by omega) (by omega) (Nat.le_refl _) RI_xg.out.ev).mono ?_
  rintro e w16 ⟨rfl, hb⟩
  have kk := OI.call RI_xs.out hb; clear RI_xs; have RI_xs := Lib.hid kk; clear kk
  have kk := OI.call RI_xr.out hb; clear RI_xr; have RI_xr := Lib.hid kk; clear kk
  have kk := OI.call RI_xx.out hb; clear RI_xx; have RI_xx := Lib.hid kk; clear kk
  have kk := OI.call RI_xg.out hb; clear RI_xg; have RI_xg := Lib.hid kk; clear kk
  have kk := OI.call RI_xy.out hb; clear RI_xy; have RI_xy := Lib.hid kk; clear kk
  have kk := OI.call RI_xz.out hb; clear RI_xz; have RI_xz := Lib.hid kk; clear kk
  have kk := OI.call RI_xh.out hb; clear RI_xh; have RI_xh := Lib.hid kk; clear kk
  have hsw16 := hb.size
  replace zb := bthen zb hb; clear hb
  have nq : ((1 + 7 * (RR.length : Int)) != (1 + 7 * (RR.length : Int))) = false := by simp
  have ZB := Lib.hid zb; clear zb
  go_wp2_with fail
  have zb := ZB.out; clear ZB
  go_ret
  exact ⟨rfl, zb⟩
end Go.Proofs.Ytchphcchpdekoaa
