/- Chapter 8: the walks of exact laws (gen_evl.py). -/
import Derived.Test.YtnimdbmcpbpoiaaEvF
namespace Go.Proofs.Ytnimdbmcpbpoiaa
open Go.RowKit
set_option linter.unusedVariables false

set_option maxRecDepth 100000 in
set_option maxHeartbeats 1000000 in
theorem eqFate_any (x0 x1 x2 x3 x4 x5 x6 : Int) (w : World) : Calls Try.prog 18 #[.agg #[.int .i64 x0, .int .i64 x1, .int .i64 x2, .int .i64 x3, .int .i64 x4, .int .i64 x5, .int .i64 x6], .agg #[.int .i64 x0, .int .i64 x1, .int .i64 x2, .int .i64 x3, .int .i64 x4, .int .i64 x5, .int .i64 x6]] w fun e w' => e = .returned (.bool true) ∧ Below w.heap.size w w' := by
  have e0 : (x0 != x0) = false := by simp
  have e1 : (x1 != x1) = false := by simp
  have e2 : (x2 != x2) = false := by simp
  have e3 : (x3 != x3) = false := by simp
  have e4 : (x4 != x4) = false := by simp
  have e5 : (x5 != x5) = false := by simp
  have e6 : (x6 != x6) = false := by simp
  go_enter Try.func18, Try.ntmps18
  go_wp2
  go_ret
  exact ⟨rfl, bthen (balloc _ _) (balloc _ _)⟩
set_option maxRecDepth 100000 in
set_option maxHeartbeats 8000000 in
theorem fteLaw_walk (AF : Option Addr) (cF : Nat) (L : List Ev) (p : Int) (w : World) (lf : L.length ≤ maxLen) (hS : evL w w.heap.size AF L) : Calls Try.prog 4 #[.slice AF L.length cF, .int .i64 p] w fun e w' => e = .returned (.bool true) ∧ Below w.heap.size w w' := by
  have HS := Lib.hid hS; clear hS
  by_cases hbig : (1048576 : Int) < L.length
  · have Hs := Lib.hid (show szI 1048576 L.length = -1 from if_pos hbig)
    go_enter Try.func4, Try.ntmps4
    go_wp2_with fail
    refine (szEvent_any _ AF L.length cF 1048576 lf (by omega) (by omega)).mono ?_
    rintro e w1 ⟨rfl, hw⟩
    rw [hw, Hs.out]; clear hw
    go_wp2_with fail
    go_ret
    exact ⟨rfl, Below.refl _ _⟩
  have lf1 : L.length ≤ 1048576 := by omega
  have Hs := Lib.hid (show szI 1048576 L.length = 1048576 - L.length from if_neg hbig)
  have Hl := Lib.hid lf; clear lf
  obtain ⟨⟨x0, x1, x2, x3, x4, x5, x6⟩, hV⟩ : ∃ f, fateE L p = f := ⟨_, rfl⟩
  have HV := Lib.hid hV; clear hV
  go_enter Try.func4, Try.ntmps4
  go_wp2_with fail
  have zb := Below.refl w.heap.size w
  refine (szEvent_any _ AF L.length cF 1048576 Hl.out (by omega) (by omega)).mono ?_
  rintro e w1 ⟨rfl, hw⟩
  rw [hw, Hs.out]; clear hw w1
  have hnb : (L.length : Int) ≤ 1048576 := by omega
  have ZB := Lib.hid zb; clear zb
  go_wp2_with fail
  have zb := ZB.out; clear ZB
  refine (toEventS_any _ w.heap.size AF cF L lf1 (by omega) (HS.out.below zb)).mono ?_
  rintro e w2 ⟨xsA, xsn, rfl, hP, hb⟩
  have hsw2 := hb.size
  replace zb := bthen zb hb; clear hb
  have RI_xs := Lib.hid (OI.of_or hP); clear hP
  have ZB := Lib.hid zb; clear zb
  go_wp2_with fail
  have zb := ZB.out; clear ZB
  refine (fateS_any _ w2.heap.size xsA xsn L p lf1 (Nat.le_refl _) RI_xs.out.ev).mono ?_
  rintro e w3 ⟨rfl, hb⟩
  rw [HV.out]
  dsimp only [Ft.A]
  have kk := OI.call RI_xs.out hb; clear RI_xs; have RI_xs := Lib.hid kk; clear kk
  have hsw3 := hb.size
  replace zb := bthen zb hb; clear hb
  have ZB := Lib.hid zb; clear zb
  go_wp2_with fail
  have zb := ZB.out; clear ZB
  generalize hX : (w3.alloc (.cells #[.int .i64 x0, .int .i64 x1, .int .i64 x2, .int .i64 x3, .int .i64 x4, .int .i64 x5, .int .i64 x6] 34)) = w4
  have hb : Below w3.heap.size w3 w4 := by rw [← hX]; exact balloc _ _
  have hk : Has w4 w3.heap.size 34 #[.int .i64 x0, .int .i64 x1, .int .i64 x2, .int .i64 x3, .int .i64 x4, .int .i64 x5, .int .i64 x6] := by rw [← hX]; exact has_new _ _ _
  clear hX
  have kk := OI.call RI_xs.out hb; clear RI_xs; have RI_xs := Lib.hid kk; clear kk
  have hsw4 := hb.size
  replace zb := bthen zb hb; clear hb
  have zp := hk; clear hk; have hlzp := has_lt zp
  have zpc0 := has_cell zp 0 rfl; have zpc1 := has_cell zp 1 rfl; have zpc2 := has_cell zp 2 rfl; have zpc3 := has_cell zp 3 rfl; have zpc4 := has_cell zp 4 rfl; have zpc5 := has_cell zp 5 rfl; have zpc6 := has_cell zp 6 rfl
  have zplt := has_lt zp
  have ZPH := Lib.hid zp; clear zp
  have ZB := Lib.hid zb; clear zb
  go_wp2_with fail
  clear zpc0 zpc1 zpc2 zpc3 zpc4 zpc5 zpc6 zplt
  have zp := ZPH.out; clear ZPH
  have zb := ZB.out; clear ZB
  refine (toEventS_any _ w.heap.size AF cF L lf1 (by omega) (HS.out.below zb)).mono ?_
  rintro e w5 ⟨xxA, xxn, rfl, hP, hb⟩
  have kk := OI.call RI_xs.out hb; clear RI_xs; have RI_xs := Lib.hid kk; clear kk
  have hsw5 := hb.size
  replace zp := has_call zp hb
  replace zb := bthen zb hb; clear hb
  have RI_xx := Lib.hid (OI.of_or hP); clear hP
  have zpc0 := has_cell zp 0 rfl; have zpc1 := has_cell zp 1 rfl; have zpc2 := has_cell zp 2 rfl; have zpc3 := has_cell zp 3 rfl; have zpc4 := has_cell zp 4 rfl; have zpc5 := has_cell zp 5 rfl; have zpc6 := has_cell zp 6 rfl
  have zplt := has_lt zp
  have ZPH := Lib.hid zp; clear zp
  have ZB := Lib.hid zb; clear zb
  go_wp2_with fail
  clear zpc0 zpc1 zpc2 zpc3 zpc4 zpc5 zpc6 zplt
  have zp := ZPH.out; clear ZPH
  have zb := ZB.out; clear ZB
  refine (fateI_any _ w5.heap.size xxA xxn L p lf1 (Nat.le_refl _) RI_xx.out.ev).mono ?_
  rintro e w6 ⟨rfl, hb⟩
  rw [HV.out]
  dsimp only [Ft.A]
  have kk := OI.call RI_xs.out hb; clear RI_xs; have RI_xs := Lib.hid kk; clear kk
  have kk := OI.call RI_xx.out hb; clear RI_xx; have RI_xx := Lib.hid kk; clear kk
  have hsw6 := hb.size
  replace zp := has_call zp hb
  replace zb := bthen zb hb; clear hb
  have zpc0 := has_cell zp 0 rfl; have zpc1 := has_cell zp 1 rfl; have zpc2 := has_cell zp 2 rfl; have zpc3 := has_cell zp 3 rfl; have zpc4 := has_cell zp 4 rfl; have zpc5 := has_cell zp 5 rfl; have zpc6 := has_cell zp 6 rfl
  have zplt := has_lt zp
  have ZPH := Lib.hid zp; clear zp
  have ZB := Lib.hid zb; clear zb
  go_wp2_with fail
  clear zpc0 zpc1 zpc2 zpc3 zpc4 zpc5 zpc6 zplt
  have zp := ZPH.out; clear ZPH
  have zb := ZB.out; clear ZB
  generalize hX : (w6.alloc (.cells #[.int .i64 x0, .int .i64 x1, .int .i64 x2, .int .i64 x3, .int .i64 x4, .int .i64 x5, .int .i64 x6] 34)) = w7
  have hb : Below w6.heap.size w6 w7 := by rw [← hX]; exact balloc _ _
  have hk : Has w7 w6.heap.size 34 #[.int .i64 x0, .int .i64 x1, .int .i64 x2, .int .i64 x3, .int .i64 x4, .int .i64 x5, .int .i64 x6] := by rw [← hX]; exact has_new _ _ _
  clear hX
  have kk := OI.call RI_xs.out hb; clear RI_xs; have RI_xs := Lib.hid kk; clear kk
  have kk := OI.call RI_xx.out hb; clear RI_xx; have RI_xx := Lib.hid kk; clear kk
  have hsw7 := hb.size
  replace zp := has_call zp hb
  replace zb := bthen zb hb; clear hb
  have zq := hk; clear hk; have hlzq := has_lt zq
  have zpc0 := has_cell zp 0 rfl; have zpc1 := has_cell zp 1 rfl; have zpc2 := has_cell zp 2 rfl; have zpc3 := has_cell zp 3 rfl; have zpc4 := has_cell zp 4 rfl; have zpc5 := has_cell zp 5 rfl; have zpc6 := has_cell zp 6 rfl
  have zplt := has_lt zp
  have zqc0 := has_cell zq 0 rfl; have zqc1 := has_cell zq 1 rfl; have zqc2 := has_cell zq 2 rfl; have zqc3 := has_cell zq 3 rfl; have zqc4 := has_cell zq 4 rfl; have zqc5 := has_cell zq 5 rfl; have zqc6 := has_cell zq 6 rfl
  have zqlt := has_lt zq
  have ZPH := Lib.hid zp; clear zp
  have ZQH := Lib.hid zq; clear zq
  have ZB := Lib.hid zb; clear zb
  go_wp2_with fail
  clear zpc0 zpc1 zpc2 zpc3 zpc4 zpc5 zpc6 zplt zqc0 zqc1 zqc2 zqc3 zqc4 zqc5 zqc6 zqlt
  have zp := ZPH.out; clear ZPH
  have zq := ZQH.out; clear ZQH
  have zb := ZB.out; clear ZB
  refine (eqFate_any x0 x1 x2 x3 x4 x5 x6 _).mono ?_
  rintro e w8 ⟨rfl, hb⟩
  have kk := OI.call RI_xs.out hb; clear RI_xs; have RI_xs := Lib.hid kk; clear kk
  have kk := OI.call RI_xx.out hb; clear RI_xx; have RI_xx := Lib.hid kk; clear kk
  have hsw8 := hb.size
  replace zp := has_call zp hb
  replace zq := has_call zq hb
  replace zb := bthen zb hb; clear hb
  have zpc0 := has_cell zp 0 rfl; have zpc1 := has_cell zp 1 rfl; have zpc2 := has_cell zp 2 rfl; have zpc3 := has_cell zp 3 rfl; have zpc4 := has_cell zp 4 rfl; have zpc5 := has_cell zp 5 rfl; have zpc6 := has_cell zp 6 rfl
  have zplt := has_lt zp
  have zqc0 := has_cell zq 0 rfl; have zqc1 := has_cell zq 1 rfl; have zqc2 := has_cell zq 2 rfl; have zqc3 := has_cell zq 3 rfl; have zqc4 := has_cell zq 4 rfl; have zqc5 := has_cell zq 5 rfl; have zqc6 := has_cell zq 6 rfl
  have zqlt := has_lt zq
  have ZPH := Lib.hid zp; clear zp
  have ZQH := Lib.hid zq; clear zq
  have ZB := Lib.hid zb; clear zb
  go_wp2_with fail
  clear zpc0 zpc1 zpc2 zpc3 zpc4 zpc5 zpc6 zplt zqc0 zqc1 zqc2 zqc3 zqc4 zqc5 zqc6 zqlt
  have zp := ZPH.out; clear ZPH
  have zq := ZQH.out; clear ZQH
  have zb := ZB.out; clear ZB
  refine (toEventS_any _ w.heap.size AF cF L lf1 (by omega) (HS.out.below zb)).mono ?_
  rintro e w9 ⟨xyA, xyn, rfl, hP, hb⟩
  have kk := OI.call RI_xs.out hb; clear RI_xs; have RI_xs := Lib.hid kk; clear kk
  have kk := OI.call RI_xx.out hb; clear RI_xx; have RI_xx := Lib.hid kk; clear kk
  have hsw9 := hb.size
  replace zp := has_call zp hb
  replace zq := has_call zq hb
  replace zb := bthen zb hb; clear hb
  have RI_xy := Lib.hid (OI.of_or hP); clear hP
  have zpc0 := has_cell zp 0 rfl; have zpc1 := has_cell zp 1 rfl; have zpc2 := has_cell zp 2 rfl; have zpc3 := has_cell zp 3 rfl; have zpc4 := has_cell zp 4 rfl; have zpc5 := has_cell zp 5 rfl; have zpc6 := has_cell zp 6 rfl
  have zplt := has_lt zp
  have zqc0 := has_cell zq 0 rfl; have zqc1 := has_cell zq 1 rfl; have zqc2 := has_cell zq 2 rfl; have zqc3 := has_cell zq 3 rfl; have zqc4 := has_cell zq 4 rfl; have zqc5 := has_cell zq 5 rfl; have zqc6 := has_cell zq 6 rfl
  have zqlt := has_lt zq
  have ZPH := Lib.hid zp; clear zp
  have ZQH := Lib.hid zq; clear zq
  have ZB := Lib.hid zb; clear zb
  go_wp2_with fail
  clear zpc0 zpc1 zpc2 zpc3 zpc4 zpc5 zpc6 zplt zqc0 zqc1 zqc2 zqc3 zqc4 zqc5 zqc6 zqlt
  have zp := ZPH.out; clear ZPH
  have zq := ZQH.out; clear ZQH
  have zb := ZB.out; clear ZB
  refine (eqEventS_any _ w9.heap.size w9.heap.size xxA xyA xxn xyn L Hl.out (Nat.le_refl _) (Nat.le_refl _) RI_xx.out.ev RI_xy.out.ev).mono ?_
  rintro e w10 ⟨rfl, hb⟩
  have kk := OI.call RI_xs.out hb; clear RI_xs; have RI_xs := Lib.hid kk; clear kk
  have kk := OI.call RI_xx.out hb; clear RI_xx; have RI_xx := Lib.hid kk; clear kk
  have kk := OI.call RI_xy.out hb; clear RI_xy; have RI_xy := Lib.hid kk; clear kk
  have hsw10 := hb.size
  replace zp := has_call zp hb
  replace zq := has_call zq hb
  replace zb := bthen zb hb; clear hb
  have zpc0 := has_cell zp 0 rfl; have zpc1 := has_cell zp 1 rfl; have zpc2 := has_cell zp 2 rfl; have zpc3 := has_cell zp 3 rfl; have zpc4 := has_cell zp 4 rfl; have zpc5 := has_cell zp 5 rfl; have zpc6 := has_cell zp 6 rfl
  have zplt := has_lt zp
  have zqc0 := has_cell zq 0 rfl; have zqc1 := has_cell zq 1 rfl; have zqc2 := has_cell zq 2 rfl; have zqc3 := has_cell zq 3 rfl; have zqc4 := has_cell zq 4 rfl; have zqc5 := has_cell zq 5 rfl; have zqc6 := has_cell zq 6 rfl
  have zqlt := has_lt zq
  have ZPH := Lib.hid zp; clear zp
  have ZQH := Lib.hid zq; clear zq
  have ZB := Lib.hid zb; clear zb
  go_wp2_with fail
  clear zpc0 zpc1 zpc2 zpc3 zpc4 zpc5 zpc6 zplt zqc0 zqc1 zqc2 zqc3 zqc4 zqc5 zqc6 zqlt
  have zp := ZPH.out; clear ZPH
  have zq := ZQH.out; clear ZQH
  have zb := ZB.out; clear ZB
  go_ret
  exact ⟨rfl, zb⟩
end Go.Proofs.Ytnimdbmcpbpoiaa
