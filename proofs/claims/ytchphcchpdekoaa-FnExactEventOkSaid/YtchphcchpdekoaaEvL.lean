/- Chapter 8: the walks of exact laws (gen_evl.py). -/
import Derived.Test.YtchphcchpdekoaaEvA
namespace Go.Proofs.Ytchphcchpdekoaa
open Go.RowKit
set_option linter.unusedVariables false

set_option maxRecDepth 100000 in
set_option maxHeartbeats 4000000 in
theorem evkLaw_walk (x0 x1 x2 x3 x4 x5 x6 : Int) (w : World) : Calls Try.prog 3 #[.agg #[.int .i64 x0, .int .i64 x1, .int .i64 x2, .int .i64 x3, .int .i64 x4, .int .i64 x5, .int .i64 x6]] w fun e w' => e = .returned (.bool true) ∧ Below w.heap.size w w' := by
  generalize hV : evB ⟨x0, x1, x2, x3, x4, x5, x6⟩ = V
  have hV2 := Lib.hid hV; clear hV
  have eq : (V != V) = false := by simp
  have EQ := Lib.hid eq; clear eq
  go_enter Try.func3, Try.ntmps3
  go_wp2_with fail
  generalize hX : (w.alloc (.cells #[.int .i64 x0, .int .i64 x1, .int .i64 x2, .int .i64 x3, .int .i64 x4, .int .i64 x5, .int .i64 x6] 23)) = w1
  have hb : Below w.heap.size w w1 := by rw [← hX]; exact balloc _ _
  have hk : Has w1 w.heap.size 23 #[.int .i64 x0, .int .i64 x1, .int .i64 x2, .int .i64 x3, .int .i64 x4, .int .i64 x5, .int .i64 x6] := by rw [← hX]; exact has_new _ _ _
  have hzw1 : w1.heap.size = w.heap.size + 1 := by rw [← hX]; simp
  clear hX
  have zb := hb; clear hb
  have za := hk; clear hk
  clear hzw1
  refine (toEvent_any x0 x1 x2 x3 x4 x5 x6 _).mono ?_
  rintro e w2 ⟨rfl, hb⟩
  replace za := has_call za hb
  replace zb := bthen zb hb; clear hb
  have zac0 := has_cell za 0 rfl; have zac1 := has_cell za 1 rfl; have zac2 := has_cell za 2 rfl; have zac3 := has_cell za 3 rfl; have zac4 := has_cell za 4 rfl; have zac5 := has_cell za 5 rfl; have zac6 := has_cell za 6 rfl
  have zalt := has_lt za
  have ZAH := Lib.hid za; clear za
  have ZB := Lib.hid zb; clear zb
  go_wp2_with fail
  clear zac0 zac1 zac2 zac3 zac4 zac5 zac6 zalt
  have za := ZAH.out; clear ZAH
  have zb := ZB.out; clear ZB
  refine (evS_any _ x0 x1 x2 x3 x4 x5 x6).mono ?_
  rintro e w3 ⟨rfl, hb⟩
  rw [hV2.out]
  replace za := has_call za hb
  replace zb := bthen zb hb; clear hb
  have zac0 := has_cell za 0 rfl; have zac1 := has_cell za 1 rfl; have zac2 := has_cell za 2 rfl; have zac3 := has_cell za 3 rfl; have zac4 := has_cell za 4 rfl; have zac5 := has_cell za 5 rfl; have zac6 := has_cell za 6 rfl
  have zalt := has_lt za
  have ZAH := Lib.hid za; clear za
  have ZB := Lib.hid zb; clear zb
  go_wp2_with fail
  clear zac0 zac1 zac2 zac3 zac4 zac5 zac6 zalt
  have za := ZAH.out; clear ZAH
  have zb := ZB.out; clear ZB
  refine (toEvent_any x0 x1 x2 x3 x4 x5 x6 _).mono ?_
  rintro e w4 ⟨rfl, hb⟩
  replace za := has_call za hb
  replace zb := bthen zb hb; clear hb
  have zac0 := has_cell za 0 rfl; have zac1 := has_cell za 1 rfl; have zac2 := has_cell za 2 rfl; have zac3 := has_cell za 3 rfl; have zac4 := has_cell za 4 rfl; have zac5 := has_cell za 5 rfl; have zac6 := has_cell za 6 rfl
  have zalt := has_lt za
  have ZAH := Lib.hid za; clear za
  have ZB := Lib.hid zb; clear zb
  go_wp2_with fail
  clear zac0 zac1 zac2 zac3 zac4 zac5 zac6 zalt
  have za := ZAH.out; clear ZAH
  have zb := ZB.out; clear ZB
  refine (evI_any _ x0 x1 x2 x3 x4 x5 x6).mono ?_
  rintro e w5 ⟨rfl, hb⟩
  rw [hV2.out]
  replace za := has_call za hb
  replace zb := bthen zb hb; clear hb
  have eq := EQ.out
  have zac0 := has_cell za 0 rfl; have zac1 := has_cell za 1 rfl; have zac2 := has_cell za 2 rfl; have zac3 := has_cell za 3 rfl; have zac4 := has_cell za 4 rfl; have zac5 := has_cell za 5 rfl; have zac6 := has_cell za 6 rfl
  have zalt := has_lt za
  have ZAH := Lib.hid za; clear za
  have ZB := Lib.hid zb; clear zb
  go_wp2_with fail
  clear zac0 zac1 zac2 zac3 zac4 zac5 zac6 zalt
  have za := ZAH.out; clear ZAH
  have zb := ZB.out; clear ZB
  go_ret
  exact ⟨rfl, zb⟩
set_option maxRecDepth 100000 in
set_option maxHeartbeats 8000000 in
theorem jrnLaw_walk (AF : Option Addr) (cF : Nat) (L : List Ev) (w : World) (lf : L.length ≤ maxLen) (hS : evL w w.heap.size AF L) : Calls Try.prog 4 #[.slice AF L.length cF] w fun e w' => e = .returned (.bool true) ∧ Below w.heap.size w w' := by
  have HS := Lib.hid hS; clear hS
  by_cases hbig : (1048576 : Int) < L.length
  · have Hs := Lib.hid (show szI 1048576 L.length = -1 from if_pos hbig)
    go_enter Try.func4, Try.ntmps4
    go_wp2_with fail
    refine (szEvent_any _ AF L.length cF 1048576 lf (by omega) (by omega)).mono ?_
    rintro e w1 ⟨rfl, hw⟩
    rw [hw, Hs.out]; clear hw
    go_wp2_with fail
    go_ret
    exact ⟨rfl, Below.refl _ _⟩
  have lf1 : L.length ≤ 1048576 := by omega
  have Hs := Lib.hid (show szI 1048576 L.length = 1048576 - L.length from if_neg hbig)
  have Hl := Lib.hid lf; clear lf
  generalize hV : jrnB L = V
  have HV := Lib.hid hV; clear hV
  go_enter Try.func4, Try.ntmps4
  go_wp2_with fail
  have zb := Below.refl w.heap.size w
  refine (szEvent_any _ AF L.length cF 1048576 Hl.out (by omega) (by omega)).mono ?_
  rintro e w1 ⟨rfl, hw⟩
  rw [hw, Hs.out]; clear hw w1
  have hnb : (L.length : Int) ≤ 1048576 := by omega
  have ZB := Lib.hid zb; clear zb
  go_wp2_with fail
  have zb := ZB.out; clear ZB
  refine (toEventS_any _ w.heap.size AF cF L lf1 (by omega) (HS.out.below zb)).mono ?_
  rintro e w2 ⟨xsA, xsn, rfl, hP, hb⟩
  have hsw2 := hb.size
  replace zb := bthen zb hb; clear hb
  have RI_xs := Lib.hid (OI.of_or hP); clear hP
  have ZB := Lib.hid zb; clear zb
  go_wp2_with fail
  have zb := ZB.out; clear ZB
  refine (jrnS_any _ w2.heap.size xsA xsn L Hl.out (Nat.le_refl _) RI_xs.out.ev).mono ?_
  rintro e w3 ⟨rfl, hb⟩
  rw [HV.out]
  have kk := OI.call RI_xs.out hb; clear RI_xs; have RI_xs := Lib.hid kk; clear kk
  have hsw3 := hb.size
  replace zb := bthen zb hb; clear hb
  have ZB := Lib.hid zb; clear zb
  go_wp2_with fail
  have zb := ZB.out; clear ZB
  refine (toEventS_any _ w.heap.size AF cF L lf1 (by omega) (HS.out.below zb)).mono ?_
  rintro e w4 ⟨xxA, xxn, rfl, hP, hb⟩
  have kk := OI.call RI_xs.out hb; clear RI_xs; have RI_xs := Lib.hid kk; clear kk
  have hsw4 := hb.size
  replace zb := bthen zb hb; clear hb
  have RI_xx := Lib.hid (OI.of_or hP); clear hP
  have ZB := Lib.hid zb; clear zb
  go_wp2_with fail
  have zb := ZB.out; clear ZB
  refine (jrnI_any _ w4.heap.size xxA xxn L Hl.out (Nat.le_refl _) RI_xx.out.ev).mono ?_
  rintro e w5 ⟨rfl, hb⟩
  rw [HV.out]
  have kk := OI.call RI_xs.out hb; clear RI_xs; have RI_xs := Lib.hid kk; clear kk
  have kk := OI.call RI_xx.out hb; clear RI_xx; have RI_xx := Lib.hid kk; clear kk
  have hsw5 := hb.size
  replace zb := bthen zb hb; clear hb
  have nv : (V != V) = false := by simp
  have ZB := Lib.hid zb; clear zb
  go_wp2_with fail
  have zb := ZB.out; clear ZB
  clear nv
  refine (toEventS_any _ w.heap.size AF cF L lf1 (by omega) (HS.out.below zb)).mono ?_
  rintro e w6 ⟨xyA, xyn, rfl, hP, hb⟩
  have kk := OI.call RI_xs.out hb; clear RI_xs; have RI_xs := Lib.hid kk; clear kk
  have kk := OI.call RI_xx.out hb; clear RI_xx; have RI_xx := Lib.hid kk; clear kk
  have hsw6 := hb.size
  replace zb := bthen zb hb; clear hb
  have RI_xy := Lib.hid (OI.of_or hP); clear hP
  have ZB := Lib.hid zb; clear zb
  go_wp2_with fail
  have zb := ZB.out; clear ZB
  refine (eqEventS_any _ w6.heap.size w6.heap.size xxA xyA xxn xyn L Hl.out (Nat.le_refl _) (Nat.le_refl _) RI_xx.out.ev RI_xy.out.ev).mono ?_
  rintro e w7 ⟨rfl, hb⟩
  have kk := OI.call RI_xs.out hb; clear RI_xs; have RI_xs := Lib.hid kk; clear kk
  have kk := OI.call RI_xx.out hb; clear RI_xx; have RI_xx := Lib.hid kk; clear kk
  have kk := OI.call RI_xy.out hb; clear RI_xy; have RI_xy := Lib.hid kk; clear kk
  have hsw7 := hb.size
  replace zb := bthen zb hb; clear hb
  have ZB := Lib.hid zb; clear zb
  go_wp2_with fail
  have zb := ZB.out; clear ZB
  go_ret
  exact ⟨rfl, zb⟩
end Go.Proofs.Ytchphcchpdekoaa
