/- Chapter 5: the walks of exact laws (gen_grl.py). -/
import Derived.Test.YthaophkbnpkbgaaGraD
import Derived.Deep.RegionHeld3
import Derived.Deep.DeepMust
namespace Go.Proofs.Ythaophkbnpkbgaa
open Go.RowKit
set_option linter.unusedVariables false

set_option maxRecDepth 100000 in
set_option maxHeartbeats 8000000 in
theorem gskLaw_walk (AF : Option Addr) (cF : Nat) (L : List Gr) (w : World) (lf : L.length ≤ maxLen) (hS : grL w w.heap.size AF L) : Calls Try.prog 4 #[.slice AF L.length cF] w fun e w' => e = .returned (.bool true) ∧ Below w.heap.size w w' := by
  have HS := Lib.hid hS; clear hS
  by_cases hbig : (1048576 : Int) < L.length
  · have Hs := Lib.hid (show szI 1048576 L.length = -1 from if_pos hbig)
    go_enter Try.func4, Try.ntmps4
    go_wp2_with fail
    refine (szGrant_any _ AF L.length cF 1048576 lf (by omega) (by omega)).mono ?_
    rintro e w1 ⟨rfl, hw⟩
    rw [hw, Hs.out]; clear hw
    go_wp2_with fail
    go_ret
    exact ⟨rfl, Below.refl _ _⟩
  have lf1 : L.length ≤ 1048576 := by omega
  have Hs := Lib.hid (show szI 1048576 L.length = 1048576 - L.length from if_neg hbig)
  have Hl := Lib.hid lf; clear lf
  generalize hV : grantsB L = V
  have HV := Lib.hid hV; clear hV
  go_enter Try.func4, Try.ntmps4
  go_wp2_with fail
  have zb := Below.refl w.heap.size w
  refine (szGrant_any _ AF L.length cF 1048576 Hl.out (by omega) (by omega)).mono ?_
  rintro e w1 ⟨rfl, hw⟩
  rw [hw, Hs.out]; clear hw w1
  have hnb : (L.length : Int) ≤ 1048576 := by omega
  have ZB := Lib.hid zb; clear zb
  go_wp2_with fail
  have zb := ZB.out; clear ZB
  refine (toGrantS_any _ w.heap.size AF cF L lf1 (by omega) (HS.out.below zb)).mono ?_
  rintro e w2 ⟨xsA, xsn, rfl, hP, hb⟩
  have hsw2 := hb.size
  replace zb := bthen zb hb; clear hb
  have RI_xs := Lib.hid (OI.of_or hP); clear hP
  have ZB := Lib.hid zb; clear zb
  go_wp2_with fail
  have zb := ZB.out; clear ZB
  refine (grantsS_any _ w2.heap.size xsA xsn L Hl.out (Nat.le_refl _) RI_xs.out.gr).mono ?_
  rintro e w3 ⟨rfl, hb⟩
  rw [HV.out]
  have kk := OI.call RI_xs.out hb; clear RI_xs; have RI_xs := Lib.hid kk; clear kk
  have hsw3 := hb.size
  replace zb := bthen zb hb; clear hb
  have ZB := Lib.hid zb; clear zb
  go_wp2_with fail
  have zb := ZB.out; clear ZB
  refine (toGrantS_any _ w.heap.size AF cF L lf1 (by omega) (HS.out.below zb)).mono ?_
  rintro e w4 ⟨xxA, xxn, rfl, hP, hb⟩
  have kk := OI.call RI_xs.out hb; clear RI_xs; have RI_xs := Lib.hid kk; clear kk
  have hsw4 := hb.size
  replace zb := bthen zb hb; clear hb
  have RI_xx := Lib.hid (OI.of_or hP); clear hP
  have ZB := Lib.hid zb; clear zb
  go_wp2_with fail
  have zb := ZB.out; clear ZB
  refine (grantsI_any _ w4.heap.size xxA xxn L Hl.out (Nat.le_refl _) RI_xx.out.gr).mono ?_
  rintro e w5 ⟨rfl, hb⟩
  rw [HV.out]
  have kk := OI.call RI_xs.out hb; clear RI_xs; have RI_xs := Lib.hid kk; clear kk
  have kk := OI.call RI_xx.out hb; clear RI_xx; have RI_xx := Lib.hid kk; clear kk
  have hsw5 := hb.size
  replace zb := bthen zb hb; clear hb
  have nv : (V != V) = false := by simp
  have ZB := Lib.hid zb; clear zb
  go_wp2_with fail
  have zb := ZB.out; clear ZB
  clear nv
  refine (toGrantS_any _ w.heap.size AF cF L lf1 (by omega) (HS.out.below zb)).mono ?_
  rintro e w6 ⟨xyA, xyn, rfl, hP, hb⟩
  have kk := OI.call RI_xs.out hb; clear RI_xs; have RI_xs := Lib.hid kk; clear kk
  have kk := OI.call RI_xx.out hb; clear RI_xx; have RI_xx := Lib.hid kk; clear kk
  have hsw6 := hb.size
  replace zb := bthen zb hb; clear hb
  have RI_xy := Lib.hid (OI.of_or hP); clear hP
  have ZB := Lib.hid zb; clear zb
  go_wp2_with fail
  have zb := ZB.out; clear ZB
  refine (eqGrantS_any _ w6.heap.size w6.heap.size xxA xyA xxn xyn L Hl.out (Nat.le_refl _) (Nat.le_refl _) RI_xx.out.gr RI_xy.out.gr).mono ?_
  rintro e w7 ⟨rfl, hb⟩
  have kk := OI.call RI_xs.out hb; clear RI_xs; have RI_xs := Lib.hid kk; clear kk
  have kk := OI.call RI_xx.out hb; clear RI_xx; have RI_xx := Lib.hid kk; clear kk
  have kk := OI.call RI_xy.out hb; clear RI_xy; have RI_xy := Lib.hid kk; clear kk
  have hsw7 := hb.size
  replace zb := bthen zb hb; clear hb
  have ZB := Lib.hid zb; clear zb
  go_wp2_with fail
  have zb := ZB.out; clear ZB
  go_ret
  exact ⟨rfl, zb⟩
theorem addG_len (l : List Gr) (g : Gr) : (addG l g).1.length ≤ l.length + 1 ∧ (30 < l.length → (addG l g).1.length = l.length) := by
  unfold addG; split
  · rename_i h; simp only [Bool.and_eq_true] at h; have := grantsB_len h.1.1.1; simp; omega
  · exact ⟨Nat.le_succ _, fun _ => rfl⟩
set_option maxRecDepth 100000 in
set_option maxHeartbeats 8000000 in
theorem agrLaw_walk (AF : Option Addr) (cF : Nat) (L : List Gr) (f t p d s u : Int) (o : Bool) (w : World) (lf : L.length ≤ maxLen) (hS : grL w w.heap.size AF L) : Calls Try.prog 6 #[.slice AF L.length cF, .agg #[.int .i64 f, .int .i64 t, .int .i64 p, .int .i64 d, .int .i64 s, .int .i64 u, .bool o]] w fun e w' => e = .returned (.bool true) ∧ Below w.heap.size w w' := by
  have HS := Lib.hid hS; clear hS
  by_cases hbig : (1048576 : Int) < L.length
  · have Hs := Lib.hid (show szI 1048576 L.length = -1 from if_pos hbig)
    go_enter Try.func6, Try.ntmps6
    go_wp2_with fail
    refine (szGrant_any _ AF L.length cF 1048576 lf (by omega) (by omega)).mono ?_
    rintro e w1 ⟨rfl, hw⟩
    rw [hw, Hs.out]; clear hw
    go_wp2_with fail
    go_ret
    exact ⟨rfl, balloc _ _⟩
  have lf1 : L.length ≤ 1048576 := by omega
  have Hs := Lib.hid (show szI 1048576 L.length = 1048576 - L.length from if_neg hbig)
  have Hl := Lib.hid lf; clear lf
  obtain ⟨RR, V, hV⟩ : ∃ RR V, addG L ⟨f, t, p, d, s, u, o⟩ = (RR, V) := ⟨_, _, rfl⟩
  have hRl : RR.length ≤ 1048576 := by have := addG_len L ⟨f, t, p, d, s, u, o⟩; rw [hV] at this; dsimp only at this; omega
  have HV := Lib.hid hV; clear hV
  go_enter Try.func6, Try.ntmps6
  go_wp2_with fail
  generalize hX : (w.alloc (.cells #[.int .i64 f, .int .i64 t, .int .i64 p, .int .i64 d, .int .i64 s, .int .i64 u, .bool o] 23)) = w1
  have hb : Below w.heap.size w w1 := by rw [← hX]; exact balloc _ _
  have hk : Has w1 w.heap.size 23 #[.int .i64 f, .int .i64 t, .int .i64 p, .int .i64 d, .int .i64 s, .int .i64 u, .bool o] := by rw [← hX]; exact has_new _ _ _
  clear hX
  have hsw1 := hb.size
  have zb := hb; clear hb
  have za := hk; clear hk; have hlza := has_lt za
  refine (szGrant_any _ AF L.length cF 1048576 Hl.out (by omega) (by omega)).mono ?_
  rintro e w2 ⟨rfl, hw⟩
  rw [hw, Hs.out]; clear hw w2
  have hnb : (L.length : Int) ≤ 1048576 := by omega
  have q0 := has_cell za 0 rfl; have q1 := has_cell za 1 rfl; have q2 := has_cell za 2 rfl; have q3 := has_cell za 3 rfl; have q4 := has_cell za 4 rfl; have q5 := has_cell za 5 rfl; have q6 := has_cell za 6 rfl
  have S0 : (fun W : World => (W.cell? ⟨w.heap.size, 0, none⟩ = some (.int .i64 f) ∧ W.cell? ⟨w.heap.size, 1, none⟩ = some (.int .i64 t) ∧ W.cell? ⟨w.heap.size, 2, none⟩ = some (.int .i64 p) ∧ W.cell? ⟨w.heap.size, 3, none⟩ = some (.int .i64 d) ∧ W.cell? ⟨w.heap.size, 4, none⟩ = some (.int .i64 s) ∧ W.cell? ⟨w.heap.size, 5, none⟩ = some (.int .i64 u) ∧ W.cell? ⟨w.heap.size, 6, none⟩ = some (.bool o)) ∧ Below w1.heap.size w1 W) w1.drew := ⟨⟨q0, q1, q2, q3, q4, q5, q6⟩, (Below.refl _ _).drew⟩
  clear q0 q1 q2 q3 q4 q5 q6
  have hka := has_lt za
  have Cd := Lib.hid zb.drew
  have hwd : w.heap.size ≤ w1.drew.heap.size := by simp; have := zb.size; omega
  have ZAH := Lib.hid za; clear za
  have ZB := Lib.hid zb; clear zb
  go_wp2_with fail
  go_region_held3 (fun W : World => (W.cell? ⟨w.heap.size, 0, none⟩ = some (.int .i64 f) ∧ W.cell? ⟨w.heap.size, 1, none⟩ = some (.int .i64 t) ∧ W.cell? ⟨w.heap.size, 2, none⟩ = some (.int .i64 p) ∧ W.cell? ⟨w.heap.size, 3, none⟩ = some (.int .i64 d) ∧ W.cell? ⟨w.heap.size, 4, none⟩ = some (.int .i64 s) ∧ W.cell? ⟨w.heap.size, 5, none⟩ = some (.int .i64 u) ∧ W.cell? ⟨w.heap.size, 6, none⟩ = some (.bool o)) ∧ Below w1.heap.size w1 W) (first | assumption) (first | (go_at_call 13; go_must (refine (toGrantS_any w1.drew w.heap.size AF cF L lf1 hwd (HS.out.below Cd.out)).mono ?_); rintro e w91 ⟨A6, n6, rfl, hP6, hb6⟩; have hb56 : Below w1.heap.size w1 w91 := ((Below.refl w1.heap.size w1).drew).trans hb6; have hz56 := hb56.size; clear hb6; have S6 : (fun W : World => (W.cell? ⟨w.heap.size, 0, none⟩ = some (.int .i64 f) ∧ W.cell? ⟨w.heap.size, 1, none⟩ = some (.int .i64 t) ∧ W.cell? ⟨w.heap.size, 2, none⟩ = some (.int .i64 p) ∧ W.cell? ⟨w.heap.size, 3, none⟩ = some (.int .i64 d) ∧ W.cell? ⟨w.heap.size, 4, none⟩ = some (.int .i64 s) ∧ W.cell? ⟨w.heap.size, 5, none⟩ = some (.int .i64 u) ∧ W.cell? ⟨w.heap.size, 6, none⟩ = some (.bool o)) ∧ Below w1.heap.size w1 W) w91 := ⟨⟨(bold hb56 _ _ (by omega)).trans S0.1.1, (bold hb56 _ _ (by omega)).trans S0.1.2.1, (bold hb56 _ _ (by omega)).trans S0.1.2.2.1, (bold hb56 _ _ (by omega)).trans S0.1.2.2.2.1, (bold hb56 _ _ (by omega)).trans S0.1.2.2.2.2.1, (bold hb56 _ _ (by omega)).trans S0.1.2.2.2.2.2.1, (bold hb56 _ _ (by omega)).trans S0.1.2.2.2.2.2.2⟩, hb56⟩; have HP6 := Lib.hid hP6; clear hP6) | (go_at_call 9; go_must (refine (toGrant_any f t p d s u o w91).mono ?_); rintro e w92 ⟨rfl, hb7⟩; have hb57 := bthen hb56 hb7; have hz57 := hb57.size; have S7 : (fun W : World => (W.cell? ⟨w.heap.size, 0, none⟩ = some (.int .i64 f) ∧ W.cell? ⟨w.heap.size, 1, none⟩ = some (.int .i64 t) ∧ W.cell? ⟨w.heap.size, 2, none⟩ = some (.int .i64 p) ∧ W.cell? ⟨w.heap.size, 3, none⟩ = some (.int .i64 d) ∧ W.cell? ⟨w.heap.size, 4, none⟩ = some (.int .i64 s) ∧ W.cell? ⟨w.heap.size, 5, none⟩ = some (.int .i64 u) ∧ W.cell? ⟨w.heap.size, 6, none⟩ = some (.bool o)) ∧ Below w1.heap.size w1 W) w92 := ⟨⟨(bold hb57 _ _ (by omega)).trans S0.1.1, (bold hb57 _ _ (by omega)).trans S0.1.2.1, (bold hb57 _ _ (by omega)).trans S0.1.2.2.1, (bold hb57 _ _ (by omega)).trans S0.1.2.2.2.1, (bold hb57 _ _ (by omega)).trans S0.1.2.2.2.2.1, (bold hb57 _ _ (by omega)).trans S0.1.2.2.2.2.2.1, (bold hb57 _ _ (by omega)).trans S0.1.2.2.2.2.2.2⟩, hb57⟩; have HP7 := Lib.hid (HP6.out.below hb7); clear HP6 hb7) | (go_at_call 18; go_must (refine (addS_any w92 w92.heap.size A6 n6 L f t p d s u o lf1 (Nat.le_refl _) HP7.out.gr).mono ?_); rintro e w93 hans; rw [HV.out] at hans; obtain ⟨xrA, xrn, rfl, hP, hb8⟩ := hans; have hb := bthen hb57 hb8; have S8 : (fun W : World => (W.cell? ⟨w.heap.size, 0, none⟩ = some (.int .i64 f) ∧ W.cell? ⟨w.heap.size, 1, none⟩ = some (.int .i64 t) ∧ W.cell? ⟨w.heap.size, 2, none⟩ = some (.int .i64 p) ∧ W.cell? ⟨w.heap.size, 3, none⟩ = some (.int .i64 d) ∧ W.cell? ⟨w.heap.size, 4, none⟩ = some (.int .i64 s) ∧ W.cell? ⟨w.heap.size, 5, none⟩ = some (.int .i64 u) ∧ W.cell? ⟨w.heap.size, 6, none⟩ = some (.bool o)) ∧ Below w1.heap.size w1 W) w93 := ⟨⟨(bold hb _ _ (by omega)).trans S0.1.1, (bold hb _ _ (by omega)).trans S0.1.2.1, (bold hb _ _ (by omega)).trans S0.1.2.2.1, (bold hb _ _ (by omega)).trans S0.1.2.2.2.1, (bold hb _ _ (by omega)).trans S0.1.2.2.2.2.1, (bold hb _ _ (by omega)).trans S0.1.2.2.2.2.2.1, (bold hb _ _ (by omega)).trans S0.1.2.2.2.2.2.2⟩, hb⟩; have HPP := Lib.hid (OR.more hP hz57); clear hP hb8))
  have hP := HPP.out; clear HPP S0 S6 S7 S8 Cd hwd HP7 hb56 hb57 hz56 hz57
  have za := ZAH.out; clear ZAH
  have zb := ZB.out; clear ZB hka
  generalize w93 = w3 at hb hP ⊢
  have hsw3 := hb.size
  replace za := has_call za hb
  replace zb := bthen zb hb; clear hb
  have RI_xr := Lib.hid (OI.of_or hP); clear hP
  have zac0 := has_cell za 0 rfl; have zac1 := has_cell za 1 rfl; have zac2 := has_cell za 2 rfl; have zac3 := has_cell za 3 rfl; have zac4 := has_cell za 4 rfl; have zac5 := has_cell za 5 rfl; have zac6 := has_cell za 6 rfl
  have zalt := has_lt za
  have ZAH := Lib.hid za; clear za
  have ZB := Lib.hid zb; clear zb
  go_wp2_with fail
  clear zac0 zac1 zac2 zac3 zac4 zac5 zac6 zalt
  have za := ZAH.out; clear ZAH
  have zb := ZB.out; clear ZB
  refine (toGrantS_any _ w.heap.size AF cF L lf1 (by omega) (HS.out.below zb)).mono ?_
  rintro e w4 ⟨xxA, xxn, rfl, hP, hb⟩
  have kk := OI.call RI_xr.out hb; clear RI_xr; have RI_xr := Lib.hid kk; clear kk
  have hsw4 := hb.size
  replace za := has_call za hb
  replace zb := bthen zb hb; clear hb
  have RI_xx := Lib.hid (OI.of_or hP); clear hP
  have zac0 := has_cell za 0 rfl; have zac1 := has_cell za 1 rfl; have zac2 := has_cell za 2 rfl; have zac3 := has_cell za 3 rfl; have zac4 := has_cell za 4 rfl; have zac5 := has_cell za 5 rfl; have zac6 := has_cell za 6 rfl
  have zalt := has_lt za
  have ZAH := Lib.hid za; clear za
  have ZB := Lib.hid zb; clear zb
  go_wp2_with fail
  clear zac0 zac1 zac2 zac3 zac4 zac5 zac6 zalt
  have za := ZAH.out; clear ZAH
  have zb := ZB.out; clear ZB
  refine (toGrant_any f t p d s u o _).mono ?_
  rintro e w5 ⟨rfl, hb⟩
  have kk := OI.call RI_xr.out hb; clear RI_xr; have RI_xr := Lib.hid kk; clear kk
  have kk := OI.call RI_xx.out hb; clear RI_xx; have RI_xx := Lib.hid kk; clear kk
  have hsw5 := hb.size
  replace za := has_call za hb
  replace zb := bthen zb hb; clear hb
  have zac0 := has_cell za 0 rfl; have zac1 := has_cell za 1 rfl; have zac2 := has_cell za 2 rfl; have zac3 := has_cell za 3 rfl; have zac4 := has_cell za 4 rfl; have zac5 := has_cell za 5 rfl; have zac6 := has_cell za 6 rfl
  have zalt := has_lt za
  have ZAH := Lib.hid za; clear za
  have ZB := Lib.hid zb; clear zb
  go_wp2_with fail
  clear zac0 zac1 zac2 zac3 zac4 zac5 zac6 zalt
  have za := ZAH.out; clear ZAH
  have zb := ZB.out; clear ZB
  refine (addI_any _ w5.heap.size xxA xxn L f t p d s u o lf1 (Nat.le_refl _) RI_xx.out.gr).mono ?_
  rintro e w6 hans
  rw [HV.out] at hans
  obtain ⟨xgA, xgn, rfl, hP, hb⟩ := hans
  have kk := OI.call RI_xr.out hb; clear RI_xr; have RI_xr := Lib.hid kk; clear kk
  have kk := OI.call RI_xx.out hb; clear RI_xx; have RI_xx := Lib.hid kk; clear kk
  have hsw6 := hb.size
  replace za := has_call za hb
  replace zb := bthen zb hb; clear hb
  have RI_xg := Lib.hid (OI.of_or hP); clear hP
  have hRm : RR.length ≤ maxLen := by unfold maxLen; omega
  have zac0 := has_cell za 0 rfl; have zac1 := has_cell za 1 rfl; have zac2 := has_cell za 2 rfl; have zac3 := has_cell za 3 rfl; have zac4 := has_cell za 4 rfl; have zac5 := has_cell za 5 rfl; have zac6 := has_cell za 6 rfl
  have zalt := has_lt za
  have ZAH := Lib.hid za; clear za
  have ZB := Lib.hid zb; clear zb
  go_wp2_with fail
  clear zac0 zac1 zac2 zac3 zac4 zac5 zac6 zalt
  have za := ZAH.out; clear ZAH
  have zb := ZB.out; clear ZB
  refine (eqGrantS_any _ w6.heap.size w6.heap.size xgA xrA xgn xrn RR hRm (Nat.le_refl _) (Nat.le_refl _) RI_xg.out.gr RI_xr.out.gr).mono ?_
  rintro e w7 ⟨rfl, hb⟩
  have kk := OI.call RI_xr.out hb; clear RI_xr; have RI_xr := Lib.hid kk; clear kk
  have kk := OI.call RI_xx.out hb; clear RI_xx; have RI_xx := Lib.hid kk; clear kk
  have kk := OI.call RI_xg.out hb; clear RI_xg; have RI_xg := Lib.hid kk; clear kk
  have hsw7 := hb.size
  replace za := has_call za hb
  replace zb := bthen zb hb; clear hb
  have nv : (V != V) = false := by simp
  have zac0 := has_cell za 0 rfl; have zac1 := has_cell za 1 rfl; have zac2 := has_cell za 2 rfl; have zac3 := has_cell za 3 rfl; have zac4 := has_cell za 4 rfl; have zac5 := has_cell za 5 rfl; have zac6 := has_cell za 6 rfl
  have zalt := has_lt za
  have ZAH := Lib.hid za; clear za
  have ZB := Lib.hid zb; clear zb
  go_wp2_with fail
  clear zac0 zac1 zac2 zac3 zac4 zac5 zac6 zalt
  have za := ZAH.out; clear ZAH
  have zb := ZB.out; clear ZB
  clear nv
  refine (toGrantS_any _ w.heap.size AF cF L lf1 (by omega) (HS.out.below zb)).mono ?_
  rintro e w8 ⟨xyA, xyn, rfl, hP, hb⟩
  have kk := OI.call RI_xr.out hb; clear RI_xr; have RI_xr := Lib.hid kk; clear kk
  have kk := OI.call RI_xx.out hb; clear RI_xx; have RI_xx := Lib.hid kk; clear kk
  have kk := OI.call RI_xg.out hb; clear RI_xg; have RI_xg := Lib.hid kk; clear kk
  have hsw8 := hb.size
  replace za := has_call za hb
  replace zb := bthen zb hb; clear hb
  have RI_xy := Lib.hid (OI.of_or hP); clear hP
  have zac0 := has_cell za 0 rfl; have zac1 := has_cell za 1 rfl; have zac2 := has_cell za 2 rfl; have zac3 := has_cell za 3 rfl; have zac4 := has_cell za 4 rfl; have zac5 := has_cell za 5 rfl; have zac6 := has_cell za 6 rfl
  have zalt := has_lt za
  have ZAH := Lib.hid za; clear za
  have ZB := Lib.hid zb; clear zb
  go_wp2_with fail
  clear zac0 zac1 zac2 zac3 zac4 zac5 zac6 zalt
  have za := ZAH.out; clear ZAH
  have zb := ZB.out; clear ZB
  refine (eqGrantS_any _ w8.heap.size w8.heap.size xxA xyA xxn xyn L Hl.out (Nat.le_refl _) (Nat.le_refl _) RI_xx.out.gr RI_xy.out.gr).mono ?_
  rintro e w9 ⟨rfl, hb⟩
  have kk := OI.call RI_xr.out hb; clear RI_xr; have RI_xr := Lib.hid kk; clear kk
  have kk := OI.call RI_xx.out hb; clear RI_xx; have RI_xx := Lib.hid kk; clear kk
  have kk := OI.call RI_xg.out hb; clear RI_xg; have RI_xg := Lib.hid kk; clear kk
  have kk := OI.call RI_xy.out hb; clear RI_xy; have RI_xy := Lib.hid kk; clear kk
  have hsw9 := hb.size
  replace za := has_call za hb
  replace zb := bthen zb hb; clear hb
  have zac0 := has_cell za 0 rfl; have zac1 := has_cell za 1 rfl; have zac2 := has_cell za 2 rfl; have zac3 := has_cell za 3 rfl; have zac4 := has_cell za 4 rfl; have zac5 := has_cell za 5 rfl; have zac6 := has_cell za 6 rfl
  have zalt := has_lt za
  have ZAH := Lib.hid za; clear za
  have ZB := Lib.hid zb; clear zb
  go_wp2_with fail
  clear zac0 zac1 zac2 zac3 zac4 zac5 zac6 zalt
  have za := ZAH.out; clear ZAH
  have zb := ZB.out; clear ZB
  refine (markGrant_any _ (w3.heap.size) xxA xxn L 1 lf1 (by omega) (by omega) RI_xx.out.or_).mono ?_
  rintro e w10 ⟨rfl, hF, hmk⟩
  have hw := within_marks RI_xx.out hmk
  have kk := oi_marked RI_xx.out hF grV_seq; clear RI_xx; have RI_xx := Lib.hid kk; clear kk hF hmk
  replace za := hw.has za (by omega)
  have kk := hw.oi RI_xr.out (by omega); clear RI_xr; have RI_xr := Lib.hid kk; clear kk
  have kk := hw.oi RI_xg.out (by omega); clear RI_xg; have RI_xg := Lib.hid kk; clear kk
  have kk := hw.oi RI_xy.out (by omega); clear RI_xy; have RI_xy := Lib.hid kk; clear kk
  replace zb := zb.trans (hw.below (B := w.heap.size) (by omega) (by omega))
  have hsw10 := hw.size
  clear hw
  have zac0 := has_cell za 0 rfl; have zac1 := has_cell za 1 rfl; have zac2 := has_cell za 2 rfl; have zac3 := has_cell za 3 rfl; have zac4 := has_cell za 4 rfl; have zac5 := has_cell za 5 rfl; have zac6 := has_cell za 6 rfl
  have zalt := has_lt za
  have ZAH := Lib.hid za; clear za
  have ZB := Lib.hid zb; clear zb
  go_wp2_with fail
  clear zac0 zac1 zac2 zac3 zac4 zac5 zac6 zalt
  have za := ZAH.out; clear ZAH
  have zb := ZB.out; clear ZB
  refine (eqGrantS_any _ w10.heap.size w10.heap.size xgA xrA xgn xrn RR hRm (Nat.le_refl _) (Nat.le_refl _) RI_xg.out.gr RI_xr.out.gr).mono ?_
  rintro e w11 ⟨rfl, hb⟩
  have kk := OI.call RI_xr.out hb; clear RI_xr; have RI_xr := Lib.hid kk; clear kk
  have kk := OI.call RI_xx.out hb; clear RI_xx; have RI_xx := Lib.hid kk; clear kk
  have kk := OI.call RI_xg.out hb; clear RI_xg; have RI_xg := Lib.hid kk; clear kk
  have kk := OI.call RI_xy.out hb; clear RI_xy; have RI_xy := Lib.hid kk; clear kk
  have hsw11 := hb.size
  replace za := has_call za hb
  replace zb := bthen zb hb; clear hb
  have nv : (V != V) = false := by simp
  have zac0 := has_cell za 0 rfl; have zac1 := has_cell za 1 rfl; have zac2 := has_cell za 2 rfl; have zac3 := has_cell za 3 rfl; have zac4 := has_cell za 4 rfl; have zac5 := has_cell za 5 rfl; have zac6 := has_cell za 6 rfl
  have zalt := has_lt za
  have ZAH := Lib.hid za; clear za
  have ZB := Lib.hid zb; clear zb
  go_wp2_with fail
  clear zac0 zac1 zac2 zac3 zac4 zac5 zac6 zalt
  have za := ZAH.out; clear ZAH
  have zb := ZB.out; clear ZB
  clear nv
  refine (markGrant_any _ (w5.heap.size) xgA xgn RR 1 hRl (by omega) (by omega) RI_xg.out.or_).mono ?_
  rintro e w12 ⟨rfl, hF, hmk⟩
  have hw := within_marks RI_xg.out hmk
  have kk := oi_marked RI_xg.out hF grV_seq; clear RI_xg; have RI_xg := Lib.hid kk; clear kk hF hmk
  replace za := hw.has za (by omega)
  have kk := hw.oi RI_xr.out (by omega); clear RI_xr; have RI_xr := Lib.hid kk; clear kk
  have kk := hw.oi RI_xx.out (by omega); clear RI_xx; have RI_xx := Lib.hid kk; clear kk
  have kk := hw.oi RI_xy.out (by omega); clear RI_xy; have RI_xy := Lib.hid kk; clear kk
  replace zb := zb.trans (hw.below (B := w.heap.size) (by omega) (by omega))
  have hsw12 := hw.size
  clear hw
  have zac0 := has_cell za 0 rfl; have zac1 := has_cell za 1 rfl; have zac2 := has_cell za 2 rfl; have zac3 := has_cell za 3 rfl; have zac4 := has_cell za 4 rfl; have zac5 := has_cell za 5 rfl; have zac6 := has_cell za 6 rfl
  have zalt := has_lt za
  have ZAH := Lib.hid za; clear za
  have ZB := Lib.hid zb; clear zb
  go_wp2_with fail
  clear zac0 zac1 zac2 zac3 zac4 zac5 zac6 zalt
  have za := ZAH.out; clear ZAH
  have zb := ZB.out; clear ZB
  refine (heldGrant_any _ w12.heap.size xgA xgn RR.length 1 hRl (by omega) (by omega) (Nat.le_refl _) RI_xg.out.gr).mono ?_
  rintro e w13 ⟨rfl, hb⟩
  have kk := OI.call RI_xr.out hb; clear RI_xr; have RI_xr := Lib.hid kk; clear kk
  have kk := OI.call RI_xx.out hb; clear RI_xx; have RI_xx := Lib.hid kk; clear kk
  have kk := OI.call RI_xg.out hb; clear RI_xg; have RI_xg := Lib.hid kk; clear kk
  have kk := OI.call RI_xy.out hb; clear RI_xy; have RI_xy := Lib.hid kk; clear kk
  have hsw13 := hb.size
  replace za := has_call za hb
  replace zb := bthen zb hb; clear hb
  have nq : ((1 + 7 * (RR.length : Int)) != (1 + 7 * (RR.length : Int))) = false := by simp
  have zac0 := has_cell za 0 rfl; have zac1 := has_cell za 1 rfl; have zac2 := has_cell za 2 rfl; have zac3 := has_cell za 3 rfl; have zac4 := has_cell za 4 rfl; have zac5 := has_cell za 5 rfl; have zac6 := has_cell za 6 rfl
  have zalt := has_lt za
  have ZAH := Lib.hid za; clear za
  have ZB := Lib.hid zb; clear zb
  go_wp2_with fail
  clear zac0 zac1 zac2 zac3 zac4 zac5 zac6 zalt
  have za := ZAH.out; clear ZAH
  have zb := ZB.out; clear ZB
  clear nq
  have q0 := has_cell za 0 rfl; have q1 := has_cell za 1 rfl; have q2 := has_cell za 2 rfl; have q3 := has_cell za 3 rfl; have q4 := has_cell za 4 rfl; have q5 := has_cell za 5 rfl; have q6 := has_cell za 6 rfl
  have S0 : (fun W : World => (W.cell? ⟨w.heap.size, 0, none⟩ = some (.int .i64 f) ∧ W.cell? ⟨w.heap.size, 1, none⟩ = some (.int .i64 t) ∧ W.cell? ⟨w.heap.size, 2, none⟩ = some (.int .i64 p) ∧ W.cell? ⟨w.heap.size, 3, none⟩ = some (.int .i64 d) ∧ W.cell? ⟨w.heap.size, 4, none⟩ = some (.int .i64 s) ∧ W.cell? ⟨w.heap.size, 5, none⟩ = some (.int .i64 u) ∧ W.cell? ⟨w.heap.size, 6, none⟩ = some (.bool o)) ∧ Below w13.heap.size w13 W) w13.drew := ⟨⟨q0, q1, q2, q3, q4, q5, q6⟩, (Below.refl _ _).drew⟩
  clear q0 q1 q2 q3 q4 q5 q6
  have hka := has_lt za
  have Cd := Lib.hid zb.drew
  have hwd : w.heap.size ≤ w13.drew.heap.size := by simp; have := zb.size; omega
  have ZAH := Lib.hid za; clear za
  have ZB := Lib.hid zb; clear zb
  go_wp2_with fail
  go_region_held3 (fun W : World => (W.cell? ⟨w.heap.size, 0, none⟩ = some (.int .i64 f) ∧ W.cell? ⟨w.heap.size, 1, none⟩ = some (.int .i64 t) ∧ W.cell? ⟨w.heap.size, 2, none⟩ = some (.int .i64 p) ∧ W.cell? ⟨w.heap.size, 3, none⟩ = some (.int .i64 d) ∧ W.cell? ⟨w.heap.size, 4, none⟩ = some (.int .i64 s) ∧ W.cell? ⟨w.heap.size, 5, none⟩ = some (.int .i64 u) ∧ W.cell? ⟨w.heap.size, 6, none⟩ = some (.bool o)) ∧ Below w13.heap.size w13 W) (first | assumption) (first | (go_at_call 13; go_must (refine (toGrantS_any w13.drew w.heap.size AF cF L lf1 hwd (HS.out.below Cd.out)).mono ?_); rintro e w91 ⟨A6, n6, rfl, hP6, hb6⟩; have hb56 : Below w13.heap.size w13 w91 := ((Below.refl w13.heap.size w13).drew).trans hb6; have hz56 := hb56.size; clear hb6; have S6 : (fun W : World => (W.cell? ⟨w.heap.size, 0, none⟩ = some (.int .i64 f) ∧ W.cell? ⟨w.heap.size, 1, none⟩ = some (.int .i64 t) ∧ W.cell? ⟨w.heap.size, 2, none⟩ = some (.int .i64 p) ∧ W.cell? ⟨w.heap.size, 3, none⟩ = some (.int .i64 d) ∧ W.cell? ⟨w.heap.size, 4, none⟩ = some (.int .i64 s) ∧ W.cell? ⟨w.heap.size, 5, none⟩ = some (.int .i64 u) ∧ W.cell? ⟨w.heap.size, 6, none⟩ = some (.bool o)) ∧ Below w13.heap.size w13 W) w91 := ⟨⟨(bold hb56 _ _ (by omega)).trans S0.1.1, (bold hb56 _ _ (by omega)).trans S0.1.2.1, (bold hb56 _ _ (by omega)).trans S0.1.2.2.1, (bold hb56 _ _ (by omega)).trans S0.1.2.2.2.1, (bold hb56 _ _ (by omega)).trans S0.1.2.2.2.2.1, (bold hb56 _ _ (by omega)).trans S0.1.2.2.2.2.2.1, (bold hb56 _ _ (by omega)).trans S0.1.2.2.2.2.2.2⟩, hb56⟩; have HP6 := Lib.hid hP6; clear hP6) | (go_at_call 9; go_must (refine (toGrant_any f t p d s u o w91).mono ?_); rintro e w92 ⟨rfl, hb7⟩; have hb57 := bthen hb56 hb7; have hz57 := hb57.size; have S7 : (fun W : World => (W.cell? ⟨w.heap.size, 0, none⟩ = some (.int .i64 f) ∧ W.cell? ⟨w.heap.size, 1, none⟩ = some (.int .i64 t) ∧ W.cell? ⟨w.heap.size, 2, none⟩ = some (.int .i64 p) ∧ W.cell? ⟨w.heap.size, 3, none⟩ = some (.int .i64 d) ∧ W.cell? ⟨w.heap.size, 4, none⟩ = some (.int .i64 s) ∧ W.cell? ⟨w.heap.size, 5, none⟩ = some (.int .i64 u) ∧ W.cell? ⟨w.heap.size, 6, none⟩ = some (.bool o)) ∧ Below w13.heap.size w13 W) w92 := ⟨⟨(bold hb57 _ _ (by omega)).trans S0.1.1, (bold hb57 _ _ (by omega)).trans S0.1.2.1, (bold hb57 _ _ (by omega)).trans S0.1.2.2.1, (bold hb57 _ _ (by omega)).trans S0.1.2.2.2.1, (bold hb57 _ _ (by omega)).trans S0.1.2.2.2.2.1, (bold hb57 _ _ (by omega)).trans S0.1.2.2.2.2.2.1, (bold hb57 _ _ (by omega)).trans S0.1.2.2.2.2.2.2⟩, hb57⟩; have HP7 := Lib.hid (HP6.out.below hb7); clear HP6 hb7) | (go_at_call 19; go_must (refine (addI_any w92 w92.heap.size A6 n6 L f t p d s u o lf1 (Nat.le_refl _) HP7.out.gr).mono ?_); rintro e w93 hans; rw [HV.out] at hans; obtain ⟨xhA, xhn, rfl, hP, hb8⟩ := hans; have hb := bthen hb57 hb8; have S8 : (fun W : World => (W.cell? ⟨w.heap.size, 0, none⟩ = some (.int .i64 f) ∧ W.cell? ⟨w.heap.size, 1, none⟩ = some (.int .i64 t) ∧ W.cell? ⟨w.heap.size, 2, none⟩ = some (.int .i64 p) ∧ W.cell? ⟨w.heap.size, 3, none⟩ = some (.int .i64 d) ∧ W.cell? ⟨w.heap.size, 4, none⟩ = some (.int .i64 s) ∧ W.cell? ⟨w.heap.size, 5, none⟩ = some (.int .i64 u) ∧ W.cell? ⟨w.heap.size, 6, none⟩ = some (.bool o)) ∧ Below w13.heap.size w13 W) w93 := ⟨⟨(bold hb _ _ (by omega)).trans S0.1.1, (bold hb _ _ (by omega)).trans S0.1.2.1, (bold hb _ _ (by omega)).trans S0.1.2.2.1, (bold hb _ _ (by omega)).trans S0.1.2.2.2.1, (bold hb _ _ (by omega)).trans S0.1.2.2.2.2.1, (bold hb _ _ (by omega)).trans S0.1.2.2.2.2.2.1, (bold hb _ _ (by omega)).trans S0.1.2.2.2.2.2.2⟩, hb⟩; have HPP := Lib.hid (OR.more hP hz57); clear hP hb8))
  have hP := HPP.out; clear HPP S0 S6 S7 S8 Cd hwd HP7 hb56 hb57 hz56 hz57
  have za := ZAH.out; clear ZAH
  have zb := ZB.out; clear ZB hka
  generalize w93 = w14 at hb hP ⊢
  have kk := OI.call RI_xr.out hb; clear RI_xr; have RI_xr := Lib.hid kk; clear kk
  have kk := OI.call RI_xx.out hb; clear RI_xx; have RI_xx := Lib.hid kk; clear kk
  have kk := OI.call RI_xg.out hb; clear RI_xg; have RI_xg := Lib.hid kk; clear kk
  have kk := OI.call RI_xy.out hb; clear RI_xy; have RI_xy := Lib.hid kk; clear kk
  have hsw14 := hb.size
  replace za := has_call za hb
  replace zb := bthen zb hb; clear hb
  have RI_xh := Lib.hid (OI.of_or hP); clear hP
  have zac0 := has_cell za 0 rfl; have zac1 := has_cell za 1 rfl; have zac2 := has_cell za 2 rfl; have zac3 := has_cell za 3 rfl; have zac4 := has_cell za 4 rfl; have zac5 := has_cell za 5 rfl; have zac6 := has_cell za 6 rfl
  have zalt := has_lt za
  have ZAH := Lib.hid za; clear za
  have ZB := Lib.hid zb; clear zb
  go_wp2_with fail
  clear zac0 zac1 zac2 zac3 zac4 zac5 zac6 zalt
  have za := ZAH.out; clear ZAH
  have zb := ZB.out; clear ZB
  refine (eqGrantS_any _ w14.heap.size w14.heap.size xhA xrA xhn xrn RR hRm (Nat.le_refl _) (Nat.le_refl _) RI_xh.out.gr RI_xr.out.gr).mono ?_
  rintro e w15 ⟨rfl, hb⟩
  have kk := OI.call RI_xr.out hb; clear RI_xr; have RI_xr := Lib.hid kk; clear kk
  have kk := OI.call RI_xx.out hb; clear RI_xx; have RI_xx := Lib.hid kk; clear kk
  have kk := OI.call RI_xg.out hb; clear RI_xg; have RI_xg := Lib.hid kk; clear kk
  have kk := OI.call RI_xy.out hb; clear RI_xy; have RI_xy := Lib.hid kk; clear kk
  have kk := OI.call RI_xh.out hb; clear RI_xh; have RI_xh := Lib.hid kk; clear kk
  have hsw15 := hb.size
  replace za := has_call za hb
  replace zb := bthen zb hb; clear hb
  have nv : (V != V) = false := by simp
  have zac0 := has_cell za 0 rfl; have zac1 := has_cell za 1 rfl; have zac2 := has_cell za 2 rfl; have zac3 := has_cell za 3 rfl; have zac4 := has_cell za 4 rfl; have zac5 := has_cell za 5 rfl; have zac6 := has_cell za 6 rfl
  have zalt := has_lt za
  have ZAH := Lib.hid za; clear za
  have ZB := Lib.hid zb; clear zb
  go_wp2_with fail
  clear zac0 zac1 zac2 zac3 zac4 zac5 zac6 zalt
  have za := ZAH.out; clear ZAH
  have zb := ZB.out; clear ZB
  clear nv
  refine (heldGrant_any _ w15.heap.size xgA xgn RR.length 1 hRl (by omega) (by omega) (Nat.le_refl _) RI_xg.out.gr).mono ?_
  rintro e w16 ⟨rfl, hb⟩
  have kk := OI.call RI_xr.out hb; clear RI_xr; have RI_xr := Lib.hid kk; clear kk
  have kk := OI.call RI_xx.out hb; clear RI_xx; have RI_xx := Lib.hid kk; clear kk
  have kk := OI.call RI_xg.out hb; clear RI_xg; have RI_xg := Lib.hid kk; clear kk
  have kk := OI.call RI_xy.out hb; clear RI_xy; have RI_xy := Lib.hid kk; clear kk
  have kk := OI.call RI_xh.out hb; clear RI_xh; have RI_xh := Lib.hid kk; clear kk
  have hsw16 := hb.size
  replace za := has_call za hb
  replace zb := bthen zb hb; clear hb
  have nq : ((1 + 7 * (RR.length : Int)) != (1 + 7 * (RR.length : Int))) = false := by simp
  have zac0 := has_cell za 0 rfl; have zac1 := has_cell za 1 rfl; have zac2 := has_cell za 2 rfl; have zac3 := has_cell za 3 rfl; have zac4 := has_cell za 4 rfl; have zac5 := has_cell za 5 rfl; have zac6 := has_cell za 6 rfl
  have zalt := has_lt za
  have ZAH := Lib.hid za; clear za
  have ZB := Lib.hid zb; clear zb
  go_wp2_with fail
  clear zac0 zac1 zac2 zac3 zac4 zac5 zac6 zalt
  have za := ZAH.out; clear ZAH
  have zb := ZB.out; clear ZB
  go_ret
  exact ⟨rfl, zb⟩
set_option maxRecDepth 100000 in
set_option maxHeartbeats 8000000 in
theorem revLaw_walk (AF : Option Addr) (cF : Nat) (L : List Gr) (i : Int) (w : World) (lf : L.length ≤ maxLen) (hS : grL w w.heap.size AF L) : Calls Try.prog 7 #[.slice AF L.length cF, .int .i64 i] w fun e w' => e = .returned (.bool true) ∧ Below w.heap.size w w' := by
  have HS := Lib.hid hS; clear hS
  by_cases hbig : (1048576 : Int) < L.length
  · have Hs := Lib.hid (show szI 1048576 L.length = -1 from if_pos hbig)
    go_enter Try.func7, Try.ntmps7
    go_wp2_with fail
    refine (szGrant_any _ AF L.length cF 1048576 lf (by omega) (by omega)).mono ?_
    rintro e w1 ⟨rfl, hw⟩
    rw [hw, Hs.out]; clear hw
    go_wp2_with fail
    go_ret
    exact ⟨rfl, Below.refl _ _⟩
  have lf1 : L.length ≤ 1048576 := by omega
  have Hs := Lib.hid (show szI 1048576 L.length = 1048576 - L.length from if_neg hbig)
  have Hl := Lib.hid lf; clear lf
  obtain ⟨RR, V, hV⟩ : ∃ RR V, revG L i = (RR, V) := ⟨_, _, rfl⟩
  have hRl : RR.length ≤ 1048576 := by have := revG_len L i; rw [hV] at this; dsimp only at this; omega
  have HV := Lib.hid hV; clear hV
  go_enter Try.func7, Try.ntmps7
  go_wp2_with fail
  have zb := Below.refl w.heap.size w
  refine (szGrant_any _ AF L.length cF 1048576 Hl.out (by omega) (by omega)).mono ?_
  rintro e w1 ⟨rfl, hw⟩
  rw [hw, Hs.out]; clear hw w1
  have hnb : (L.length : Int) ≤ 1048576 := by omega
  have ZB := Lib.hid zb; clear zb
  go_wp2_with fail
  have zb := ZB.out; clear ZB
  refine (toGrantS_any _ w.heap.size AF cF L lf1 (by omega) (HS.out.below zb)).mono ?_
  rintro e w2 ⟨xsA, xsn, rfl, hP, hb⟩
  have hsw2 := hb.size
  replace zb := bthen zb hb; clear hb
  have RI_xs := Lib.hid (OI.of_or hP); clear hP
  have ZB := Lib.hid zb; clear zb
  go_wp2_with fail
  have zb := ZB.out; clear ZB
  refine (revS_any _ w2.heap.size xsA xsn L i lf1 (Nat.le_refl _) RI_xs.out.gr).mono ?_
  rintro e w3 hans
  rw [HV.out] at hans
  obtain ⟨xrA, xrn, rfl, hP, hb⟩ := hans
  have kk := OI.call RI_xs.out hb; clear RI_xs; have RI_xs := Lib.hid kk; clear kk
  have hsw3 := hb.size
  replace zb := bthen zb hb; clear hb
  have RI_xr := Lib.hid (OI.of_or hP); clear hP
  have ZB := Lib.hid zb; clear zb
  go_wp2_with fail
  have zb := ZB.out; clear ZB
  refine (toGrantS_any _ w.heap.size AF cF L lf1 (by omega) (HS.out.below zb)).mono ?_
  rintro e w4 ⟨xxA, xxn, rfl, hP, hb⟩
  have kk := OI.call RI_xs.out hb; clear RI_xs; have RI_xs := Lib.hid kk; clear kk
  have kk := OI.call RI_xr.out hb; clear RI_xr; have RI_xr := Lib.hid kk; clear kk
  have hsw4 := hb.size
  replace zb := bthen zb hb; clear hb
  have RI_xx := Lib.hid (OI.of_or hP); clear hP
  have ZB := Lib.hid zb; clear zb
  go_wp2_with fail
  have zb := ZB.out; clear ZB
  refine (revI_any _ w4.heap.size xxA xxn L i lf1 (Nat.le_refl _) RI_xx.out.gr).mono ?_
  rintro e w5 hans
  rw [HV.out] at hans
  obtain ⟨xgA, xgn, rfl, hP, hb⟩ := hans
  have kk := OI.call RI_xs.out hb; clear RI_xs; have RI_xs := Lib.hid kk; clear kk
  have kk := OI.call RI_xr.out hb; clear RI_xr; have RI_xr := Lib.hid kk; clear kk
  have kk := OI.call RI_xx.out hb; clear RI_xx; have RI_xx := Lib.hid kk; clear kk
  have hsw5 := hb.size
  replace zb := bthen zb hb; clear hb
  have RI_xg := Lib.hid (OI.of_or hP); clear hP
  have hRm : RR.length ≤ maxLen := by unfold maxLen; omega
  have ZB := Lib.hid zb; clear zb
  go_wp2_with fail
  have zb := ZB.out; clear ZB
  refine (eqGrantS_any _ w5.heap.size w5.heap.size xgA xrA xgn xrn RR hRm (Nat.le_refl _) (Nat.le_refl _) RI_xg.out.gr RI_xr.out.gr).mono ?_
  rintro e w6 ⟨rfl, hb⟩
  have kk := OI.call RI_xs.out hb; clear RI_xs; have RI_xs := Lib.hid kk; clear kk
  have kk := OI.call RI_xr.out hb; clear RI_xr; have RI_xr := Lib.hid kk; clear kk
  have kk := OI.call RI_xx.out hb; clear RI_xx; have RI_xx := Lib.hid kk; clear kk
  have kk := OI.call RI_xg.out hb; clear RI_xg; have RI_xg := Lib.hid kk; clear kk
  have hsw6 := hb.size
  replace zb := bthen zb hb; clear hb
  have nv : (V != V) = false := by simp
  have ZB := Lib.hid zb; clear zb
  go_wp2_with fail
  have zb := ZB.out; clear ZB
  clear nv
  refine (toGrantS_any _ w.heap.size AF cF L lf1 (by omega) (HS.out.below zb)).mono ?_
  rintro e w7 ⟨xyA, xyn, rfl, hP, hb⟩
  have kk := OI.call RI_xs.out hb; clear RI_xs; have RI_xs := Lib.hid kk; clear kk
  have kk := OI.call RI_xr.out hb; clear RI_xr; have RI_xr := Lib.hid kk; clear kk
  have kk := OI.call RI_xx.out hb; clear RI_xx; have RI_xx := Lib.hid kk; clear kk
  have kk := OI.call RI_xg.out hb; clear RI_xg; have RI_xg := Lib.hid kk; clear kk
  have hsw7 := hb.size
  replace zb := bthen zb hb; clear hb
  have RI_xy := Lib.hid (OI.of_or hP); clear hP
  have ZB := Lib.hid zb; clear zb
  go_wp2_with fail
  have zb := ZB.out; clear ZB
  refine (eqGrantS_any _ w7.heap.size w7.heap.size xxA xyA xxn xyn L Hl.out (Nat.le_refl _) (Nat.le_refl _) RI_xx.out.gr RI_xy.out.gr).mono ?_
  rintro e w8 ⟨rfl, hb⟩
  have kk := OI.call RI_xs.out hb; clear RI_xs; have RI_xs := Lib.hid kk; clear kk
  have kk := OI.call RI_xr.out hb; clear RI_xr; have RI_xr := Lib.hid kk; clear kk
  have kk := OI.call RI_xx.out hb; clear RI_xx; have RI_xx := Lib.hid kk; clear kk
  have kk := OI.call RI_xg.out hb; clear RI_xg; have RI_xg := Lib.hid kk; clear kk
  have kk := OI.call RI_xy.out hb; clear RI_xy; have RI_xy := Lib.hid kk; clear kk
  have hsw8 := hb.size
  replace zb := bthen zb hb; clear hb
  have ZB := Lib.hid zb; clear zb
  go_wp2_with fail
  have zb := ZB.out; clear ZB
  refine (markGrant_any _ (w3.heap.size) xxA xxn L 1 lf1 (by omega) (by omega) RI_xx.out.or_).mono ?_
  rintro e w9 ⟨rfl, hF, hmk⟩
  have hw := within_marks RI_xx.out hmk
  have kk := oi_marked RI_xx.out hF grV_seq; clear RI_xx; have RI_xx := Lib.hid kk; clear kk hF hmk
  have kk := hw.oi RI_xs.out (by omega); clear RI_xs; have RI_xs := Lib.hid kk; clear kk
  have kk := hw.oi RI_xr.out (by omega); clear RI_xr; have RI_xr := Lib.hid kk; clear kk
  have kk := hw.oi RI_xg.out (by omega); clear RI_xg; have RI_xg := Lib.hid kk; clear kk
  have kk := hw.oi RI_xy.out (by omega); clear RI_xy; have RI_xy := Lib.hid kk; clear kk
  replace zb := zb.trans (hw.below (B := w.heap.size) (by omega) (by omega))
  have hsw9 := hw.size
  clear hw
  have ZB := Lib.hid zb; clear zb
  go_wp2_with fail
  have zb := ZB.out; clear ZB
  refine (eqGrantS_any _ w9.heap.size w9.heap.size xgA xrA xgn xrn RR hRm (Nat.le_refl _) (Nat.le_refl _) RI_xg.out.gr RI_xr.out.gr).mono ?_
  rintro e w10 ⟨rfl, hb⟩
  have kk := OI.call RI_xs.out hb; clear RI_xs; have RI_xs := Lib.hid kk; clear kk
  have kk := OI.call RI_xr.out hb; clear RI_xr; have RI_xr := Lib.hid kk; clear kk
  have kk := OI.call RI_xx.out hb; clear RI_xx; have RI_xx := Lib.hid kk; clear kk
  have kk := OI.call RI_xg.out hb; clear RI_xg; have RI_xg := Lib.hid kk; clear kk
  have kk := OI.call RI_xy.out hb; clear RI_xy; have RI_xy := Lib.hid kk; clear kk
  have hsw10 := hb.size
  replace zb := bthen zb hb; clear hb
  have nv : (V != V) = false := by simp
  have ZB := Lib.hid zb; clear zb
  go_wp2_with fail
  have zb := ZB.out; clear ZB
  clear nv
  refine (markGrant_any _ (w4.heap.size) xgA xgn RR 1 hRl (by omega) (by omega) RI_xg.out.or_).mono ?_
  rintro e w11 ⟨rfl, hF, hmk⟩
  have hw := within_marks RI_xg.out hmk
  have kk := oi_marked RI_xg.out hF grV_seq; clear RI_xg; have RI_xg := Lib.hid kk; clear kk hF hmk
  have kk := hw.oi RI_xs.out (by omega); clear RI_xs; have RI_xs := Lib.hid kk; clear kk
  have kk := hw.oi RI_xr.out (by omega); clear RI_xr; have RI_xr := Lib.hid kk; clear kk
  have kk := hw.oi RI_xx.out (by omega); clear RI_xx; have RI_xx := Lib.hid kk; clear kk
  have kk := hw.oi RI_xy.out (by omega); clear RI_xy; have RI_xy := Lib.hid kk; clear kk
  replace zb := zb.trans (hw.below (B := w.heap.size) (by omega) (by omega))
  have hsw11 := hw.size
  clear hw
  have ZB := Lib.hid zb; clear zb
  go_wp2_with fail
  have zb := ZB.out; clear ZB
  refine (heldGrant_any _ w11.heap.size xgA xgn RR.length 1 hRl (by omega) (by omega) (Nat.le_refl _) RI_xg.out.gr).mono ?_
  rintro e w12 ⟨rfl, hb⟩
  have kk := OI.call RI_xs.out hb; clear RI_xs; have RI_xs := Lib.hid kk; clear kk
  have kk := OI.call RI_xr.out hb; clear RI_xr; have RI_xr := Lib.hid kk; clear kk
  have kk := OI.call RI_xx.out hb; clear RI_xx; have RI_xx := Lib.hid kk; clear kk
  have kk := OI.call RI_xg.out hb; clear RI_xg; have RI_xg := Lib.hid kk; clear kk
  have kk := OI.call RI_xy.out hb; clear RI_xy; have RI_xy := Lib.hid kk; clear kk
  have hsw12 := hb.size
  replace zb := bthen zb hb; clear hb
  have nq : ((1 + 7 * (RR.length : Int)) != (1 + 7 * (RR.length : Int))) = false := by simp
  have ZB := Lib.hid zb; clear zb
  go_wp2_with fail
  have zb := ZB.out; clear ZB
  clear nq
  refine (toGrantS_any _ w.heap.size AF cF L lf1 (by omega) (HS.out.below zb)).mono ?_
  rintro e w13 ⟨xzA, xzn, rfl, hP, hb⟩
  have kk := OI.call RI_xs.out hb; clear RI_xs; have RI_xs := Lib.hid kk; clear kk
  have kk := OI.call RI_xr.out hb; clear RI_xr; have RI_xr := Lib.hid kk; clear kk
  have kk := OI.call RI_xx.out hb; clear RI_xx; have RI_xx := Lib.hid kk; clear kk
  have kk := OI.call RI_xg.out hb; clear RI_xg; have RI_xg := Lib.hid kk; clear kk
  have kk := OI.call RI_xy.out hb; clear RI_xy; have RI_xy := Lib.hid kk; clear kk
  have hsw13 := hb.size
  replace zb := bthen zb hb; clear hb
  have RI_xz := Lib.hid (OI.of_or hP); clear hP
  have ZB := Lib.hid zb; clear zb
  go_wp2_with fail
  have zb := ZB.out; clear ZB
  refine (revI_any _ w13.heap.size xzA xzn L i lf1 (Nat.le_refl _) RI_xz.out.gr).mono ?_
  rintro e w14 hans
  rw [HV.out] at hans
  obtain ⟨xhA, xhn, rfl, hP, hb⟩ := hans
  have kk := OI.call RI_xs.out hb; clear RI_xs; have RI_xs := Lib.hid kk; clear kk
  have kk := OI.call RI_xr.out hb; clear RI_xr; have RI_xr := Lib.hid kk; clear kk
  have kk := OI.call RI_xx.out hb; clear RI_xx; have RI_xx := Lib.hid kk; clear kk
  have kk := OI.call RI_xg.out hb; clear RI_xg; have RI_xg := Lib.hid kk; clear kk
  have kk := OI.call RI_xy.out hb; clear RI_xy; have RI_xy := Lib.hid kk; clear kk
  have kk := OI.call RI_xz.out hb; clear RI_xz; have RI_xz := Lib.hid kk; clear kk
  have hsw14 := hb.size
  replace zb := bthen zb hb; clear hb
  have RI_xh := Lib.hid (OI.of_or hP); clear hP
  have ZB := Lib.hid zb; clear zb
  go_wp2_with fail
  have zb := ZB.out; clear ZB
  refine (eqGrantS_any _ w14.heap.size w14.heap.size xhA xrA xhn xrn RR hRm (Nat.le_refl _) (Nat.le_refl _) RI_xh.out.gr RI_xr.out.gr).mono ?_
  rintro e w15 ⟨rfl, hb⟩
  have kk := OI.call RI_xs.out hb; clear RI_xs; have RI_xs := Lib.hid kk; clear kk
  have kk := OI.call RI_xr.out hb; clear RI_xr; have RI_xr := Lib.hid kk; clear kk
  have kk := OI.call RI_xx.out hb; clear RI_xx; have RI_xx := Lib.hid kk; clear kk
  have kk := OI.call RI_xg.out hb; clear RI_xg; have RI_xg := Lib.hid kk; clear kk
  have kk := OI.call RI_xy.out hb; clear RI_xy; have RI_xy := Lib.hid kk; clear kk
  have kk := OI.call RI_xz.out hb; clear RI_xz; have RI_xz := Lib.hid kk; clear kk
  have kk := OI.call RI_xh.out hb; clear RI_xh; have RI_xh := Lib.hid kk; clear kk
  have hsw15 := hb.size
  replace zb := bthen zb hb; clear hb
  have nv : (V != V) = false := by simp
  have ZB := Lib.hid zb; clear zb
  go_wp2_with fail
  have zb := ZB.out; clear ZB
  clear nv
  refine (heldGrant_any _ w15.heap.size xgA xgn RR.length 1 hRl (by omega) (by omega) (Nat.le_refl _) RI_xg.out.gr).mono ?_
  rintro e w16 ⟨rfl, hb⟩
  have kk := OI.call RI_xs.out hb; clear RI_xs; have RI_xs := Lib.hid kk; clear kk
  have kk := OI.call RI_xr.out hb; clear RI_xr; have RI_xr := Lib.hid kk; clear kk
  have kk := OI.call RI_xx.out hb; clear RI_xx; have RI_xx := Lib.hid kk; clear kk
  have kk := OI.call RI_xg.out hb; clear RI_xg; have RI_xg := Lib.hid kk; clear kk
  have kk := OI.call RI_xy.out hb; clear RI_xy; have RI_xy := Lib.hid kk; clear kk
  have kk := OI.call RI_xz.out hb; clear RI_xz; have RI_xz := Lib.hid kk; clear kk
  have kk := OI.call RI_xh.out hb; clear RI_xh; have RI_xh := Lib.hid kk; clear kk
  have hsw16 := hb.size
  replace zb := bthen zb hb; clear hb
  have nq : ((1 + 7 * (RR.length : Int)) != (1 + 7 * (RR.length : Int))) = false := by simp
  have ZB := Lib.hid zb; clear zb
  go_wp2_with fail
  have zb := ZB.out; clear ZB
  go_ret
  exact ⟨rfl, zb⟩
end Go.Proofs.Ythaophkbnpkbgaa
