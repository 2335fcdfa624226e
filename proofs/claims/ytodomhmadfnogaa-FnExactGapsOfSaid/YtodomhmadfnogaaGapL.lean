/- Chapter 2: the walk of the law FnExactGapsOf, over the contracts of what it calls (gen_law_gap.py). -/
import Derived.Test.YtodomhmadfnogaaGapE
import Derived.Test.YtodomhmadfnogaaColR
import Derived.Deep.RegionHeld3
import Derived.Deep.DeepMust
namespace Go.Proofs.Ytodomhmadfnogaa
open Go.RowKit
set_option linter.unusedVariables false

set_option maxRecDepth 100000 in
set_option maxHeartbeats 4000000 in
theorem gapsLaw_walk (AF AB : Option Addr) (cF cB : Nat) (z : Int) (F : List Int) (L : List Bx)  (w : World) (lf : F.length ≤ maxLen) (lb : L.length ≤ maxLen) (hS : IL w w.heap.size AF F) (hT : XL w w.heap.size AB L) :
    Calls Try.prog 3 #[.agg #[.int .i64 z, .slice AF F.length cF, .slice AB L.length cB]] w fun e w' => e = .returned (.bool true) ∧ Below w.heap.size w w' := by
  have HS := Lib.hid hS; clear hS
  have HT := Lib.hid hT; clear hT
  by_cases hbig : (1048576 : Int) < F.length + L.length
  · have hs : szC 1048576 F.length L.length = -1 := if_pos hbig
    have Hs := Lib.hid hs; clear hs
    go_enter Try.func3, Try.ntmps3
    go_wp2_with fail
    refine (szColumn_any _ AF AB F.length cF L.length cB z 1048576 lf lb (by omega) (by omega)).mono ?_
    rintro e w1 ⟨rfl, hb1⟩
    rw [Hs.out]
    go_wp2_with fail
    go_ret
    exact ⟨rfl, bthen (balloc _ _) hb1⟩
  · have hs : szC 1048576 F.length L.length = 1048576 - F.length - L.length := if_neg hbig
    have lf1 : F.length ≤ 1048576 := by omega
    have lb1 : L.length ≤ 1048576 := by omega
    have Hs := Lib.hid hs; clear hs
    obtain ⟨G, hG⟩ : ∃ G, gapsO z F L = G := ⟨_, rfl⟩
    have hGl0 : G.length ≤ 24 := by rw [← hG]; exact gapsO_len z F L
    have hGl : G.length ≤ 1048576 := by omega
    have hGm : G.length ≤ maxLen := by unfold maxLen; omega
    have HG := Lib.hid hG; clear hG hGl0
    go_enter Try.func3, Try.ntmps3
    go_wp2_with fail
    generalize hX : (w.alloc (.cells #[.int .i64 z, .slice AF F.length cF, .slice AB L.length cB] 25)) = w0
    have hb : Below w.heap.size w w0 := by rw [← hX]; exact balloc _ _
    have K_a := Lib.hid (show Has w0 w.heap.size 25 #[.int .i64 z, .slice AF F.length cF, .slice AB L.length cB] by rw [← hX]; exact has_new _ _ _)
    clear hX
    have C := Lib.hid hb; clear hb
    have hla := has_lt K_a.out
    refine (szColumn_any w0 AF AB F.length cF L.length cB z 1048576 lf lb (by omega) (by omega)).mono ?_
    rintro e w1 ⟨rfl, hb⟩
    rw [Hs.out]
    have hsw1 := hb.size
    have hw : Within 0 0 w0 w1 := Within.of_below hb
    have kk := hw.has K_a.out (by omega); clear K_a; have K_a := Lib.hid kk; clear kk
    have kk := bthen C.out hb; clear C; have C := Lib.hid kk; clear kk
    clear hw
    clear hb
    have ea0 := has_cell K_a.out 0 rfl
    have ea1 := has_cell K_a.out 1 rfl
    have ea2 := has_cell K_a.out 2 rfl
    have hha := has_lt K_a.out
    go_wp2_with fail
    refine (toColumn_any w1 w.heap.size AF AB cF cB z F L lf1 lb1 (by omega) (HS.out.below C.out) (HT.out.below C.out)).mono ?_
    rintro e w2 ⟨sA, sB, sn, sm, rfl, hP, hQ, hb⟩
    have RF_s := Lib.hid (OI.of_or hP); have RL_s := Lib.hid (OI.of_or hQ); clear hP hQ
    have hsw2 := hb.size
    have hw : Within 0 0 w1 w2 := Within.of_below hb
    have kk := hw.has K_a.out (by omega); clear K_a; have K_a := Lib.hid kk; clear kk
    have kk := bthen C.out hb; clear C; have C := Lib.hid kk; clear kk
    clear hw
    clear hb
    clear ea0 ea1 ea2 hha
    go_wp2_with fail
    refine (gapsS_any w2 w2.heap.size ⟨z, sA, F, sn, sB, L, sm⟩ (Nat.le_refl _) (show CV w2 w2.heap.size ⟨z, sA, F, sn, sB, L, sm⟩ from ⟨RF_s.out.il, RL_s.out.xl, lf, lb⟩)).mono ?_
    rintro e w3 hans
    dsimp only at hans
    rw [HG.out] at hans
    obtain ⟨rA, rn, rfl, hP, hb⟩ := hans
    have RG_r := Lib.hid (OI.of_or hP); clear hP
    have hsw3 := hb.size
    have hw : Within 0 0 w2 w3 := Within.of_below hb
    have kk := hw.has K_a.out (by omega); clear K_a; have K_a := Lib.hid kk; clear kk
    have kk := hw.oi RF_s.out (by omega); clear RF_s; have RF_s := Lib.hid kk; clear kk
    have kk := hw.oi RL_s.out (by omega); clear RL_s; have RL_s := Lib.hid kk; clear kk
    have kk := bthen C.out hb; clear C; have C := Lib.hid kk; clear kk
    clear hw
    clear hb
    have ea0 := has_cell K_a.out 0 rfl
    have ea1 := has_cell K_a.out 1 rfl
    have ea2 := has_cell K_a.out 2 rfl
    have hha := has_lt K_a.out
    go_wp2_with fail
    refine (toColumn_any w3 w.heap.size AF AB cF cB z F L lf1 lb1 (by omega) (HS.out.below C.out) (HT.out.below C.out)).mono ?_
    rintro e w4 ⟨xA, xB, xn, xm, rfl, hP, hQ, hb⟩
    have RF_x := Lib.hid (OI.of_or hP); have RL_x := Lib.hid (OI.of_or hQ); clear hP hQ
    have hsw4 := hb.size
    have hw : Within 0 0 w3 w4 := Within.of_below hb
    have kk := hw.has K_a.out (by omega); clear K_a; have K_a := Lib.hid kk; clear kk
    have kk := hw.oi RF_s.out (by omega); clear RF_s; have RF_s := Lib.hid kk; clear kk
    have kk := hw.oi RL_s.out (by omega); clear RL_s; have RL_s := Lib.hid kk; clear kk
    have kk := hw.oi RG_r.out (by omega); clear RG_r; have RG_r := Lib.hid kk; clear kk
    have kk := bthen C.out hb; clear C; have C := Lib.hid kk; clear kk
    clear hw
    clear hb
    clear ea0 ea1 ea2 hha
    go_wp2_with fail
    generalize hX : (w4.alloc (.cells #[.int .i64 z, .slice xA F.length xn, .slice xB L.length xm] 31)) = w5
    have hb : Below w4.heap.size w4 w5 := by rw [← hX]; exact balloc _ _
    have K_x := Lib.hid (show Has w5 w4.heap.size 31 #[.int .i64 z, .slice xA F.length xn, .slice xB L.length xm] by rw [← hX]; exact has_new _ _ _)
    clear hX
    have hlx := has_lt K_x.out
    have hsw5 := hb.size
    have hw : Within 0 0 w4 w5 := Within.of_below hb
    have kk := hw.has K_a.out (by omega); clear K_a; have K_a := Lib.hid kk; clear kk
    have kk := hw.oi RF_s.out (by omega); clear RF_s; have RF_s := Lib.hid kk; clear kk
    have kk := hw.oi RL_s.out (by omega); clear RL_s; have RL_s := Lib.hid kk; clear kk
    have kk := hw.oi RF_x.out (by omega); clear RF_x; have RF_x := Lib.hid kk; clear kk
    have kk := hw.oi RL_x.out (by omega); clear RL_x; have RL_x := Lib.hid kk; clear kk
    have kk := hw.oi RG_r.out (by omega); clear RG_r; have RG_r := Lib.hid kk; clear kk
    have kk := bthen C.out hb; clear C; have C := Lib.hid kk; clear kk
    clear hw
    clear hb
    go_wp2_with fail
    refine (gapsI_any w5 w5.heap.size ⟨z, xA, F, xn, xB, L, xm⟩ (Nat.le_refl _) (show CV w5 w5.heap.size ⟨z, xA, F, xn, xB, L, xm⟩ from ⟨RF_x.out.il, RL_x.out.xl, lf, lb⟩)).mono ?_
    rintro e w6 hans
    dsimp only at hans
    rw [HG.out] at hans
    obtain ⟨gA, gn, rfl, hP, hb⟩ := hans
    have RG_g := Lib.hid (OI.of_or hP); clear hP
    have hsw6 := hb.size
    have hw : Within 0 0 w5 w6 := Within.of_below hb
    have kk := hw.has K_a.out (by omega); clear K_a; have K_a := Lib.hid kk; clear kk
    have kk := hw.has K_x.out (by omega); clear K_x; have K_x := Lib.hid kk; clear kk
    have kk := hw.oi RF_s.out (by omega); clear RF_s; have RF_s := Lib.hid kk; clear kk
    have kk := hw.oi RL_s.out (by omega); clear RL_s; have RL_s := Lib.hid kk; clear kk
    have kk := hw.oi RF_x.out (by omega); clear RF_x; have RF_x := Lib.hid kk; clear kk
    have kk := hw.oi RL_x.out (by omega); clear RL_x; have RL_x := Lib.hid kk; clear kk
    have kk := hw.oi RG_r.out (by omega); clear RG_r; have RG_r := Lib.hid kk; clear kk
    have kk := bthen C.out hb; clear C; have C := Lib.hid kk; clear kk
    clear hw
    clear hb
    go_wp2_with fail
    refine (eqGapS_any w6 w6.heap.size w6.heap.size gA rA gn rn G hGm (Nat.le_refl _) (Nat.le_refl _) RG_g.out.gp RG_r.out.gp).mono ?_
    rintro e w7 ⟨rfl, hb⟩
    have hsw7 := hb.size
    have hw : Within 0 0 w6 w7 := Within.of_below hb
    have kk := hw.has K_a.out (by omega); clear K_a; have K_a := Lib.hid kk; clear kk
    have kk := hw.has K_x.out (by omega); clear K_x; have K_x := Lib.hid kk; clear kk
    have kk := hw.oi RF_s.out (by omega); clear RF_s; have RF_s := Lib.hid kk; clear kk
    have kk := hw.oi RL_s.out (by omega); clear RL_s; have RL_s := Lib.hid kk; clear kk
    have kk := hw.oi RF_x.out (by omega); clear RF_x; have RF_x := Lib.hid kk; clear kk
    have kk := hw.oi RL_x.out (by omega); clear RL_x; have RL_x := Lib.hid kk; clear kk
    have kk := hw.oi RG_r.out (by omega); clear RG_r; have RG_r := Lib.hid kk; clear kk
    have kk := hw.oi RG_g.out (by omega); clear RG_g; have RG_g := Lib.hid kk; clear kk
    have kk := bthen C.out hb; clear C; have C := Lib.hid kk; clear kk
    clear hw
    clear hb
    have ea0 := has_cell K_a.out 0 rfl
    have ea1 := has_cell K_a.out 1 rfl
    have ea2 := has_cell K_a.out 2 rfl
    have hha := has_lt K_a.out
    have ex0 := has_cell K_x.out 0 rfl
    have ex1 := has_cell K_x.out 1 rfl
    have ex2 := has_cell K_x.out 2 rfl
    have hhx := has_lt K_x.out
    have S0 : (fun W : World => (W.cell? ⟨w.heap.size, 0, none⟩ = some (.int .i64 z) ∧ W.cell? ⟨w.heap.size, 1, none⟩ = some (.slice AF F.length cF) ∧ W.cell? ⟨w.heap.size, 2, none⟩ = some (.slice AB L.length cB) ∧ W.cell? ⟨w4.heap.size, 0, none⟩ = some (.int .i64 z) ∧ W.cell? ⟨w4.heap.size, 1, none⟩ = some (.slice xA F.length xn) ∧ W.cell? ⟨w4.heap.size, 2, none⟩ = some (.slice xB L.length xm)) ∧ Below w7.heap.size w7 W) w7.drew := ⟨⟨ea0, ea1, ea2, ex0, ex1, ex2⟩, (Below.refl _ _).drew⟩
    clear ea0 ea1 ea2 ex0 ex1 ex2 hha hhx
    have Cd := Lib.hid (C.out.drew)
    have hka : w.heap.size < w7.heap.size := has_lt K_a.out
    have hkx : w4.heap.size < w7.heap.size := has_lt K_x.out
    have hwd : w.heap.size ≤ w7.drew.heap.size := by simp; omega
    go_wp2_with fail
    go_region_held3 (fun W : World => (W.cell? ⟨w.heap.size, 0, none⟩ = some (.int .i64 z) ∧ W.cell? ⟨w.heap.size, 1, none⟩ = some (.slice AF F.length cF) ∧ W.cell? ⟨w.heap.size, 2, none⟩ = some (.slice AB L.length cB) ∧ W.cell? ⟨w4.heap.size, 0, none⟩ = some (.int .i64 z) ∧ W.cell? ⟨w4.heap.size, 1, none⟩ = some (.slice xA F.length xn) ∧ W.cell? ⟨w4.heap.size, 2, none⟩ = some (.slice xB L.length xm)) ∧ Below w7.heap.size w7 W) (first | assumption) (first
      | (go_at_call 9; go_must (refine (toColumn_any w7.drew w.heap.size AF AB cF cB z F L lf1 lb1 hwd (HS.out.below Cd.out) (HT.out.below Cd.out)).mono ?_); rintro e w8 ⟨P6, Q6, n6, m6, rfl, hP6, hQ6, hb6⟩; have HP6 := Lib.hid hP6.il; have HQ6 := Lib.hid hQ6.xl; clear hP6 hQ6; have hb56 : Below w7.heap.size w7 w8 := ((Below.refl w7.heap.size w7).drew).trans hb6; have hz56 := hb56.size; clear hb6; have S6 : (fun W : World => (W.cell? ⟨w.heap.size, 0, none⟩ = some (.int .i64 z) ∧ W.cell? ⟨w.heap.size, 1, none⟩ = some (.slice AF F.length cF) ∧ W.cell? ⟨w.heap.size, 2, none⟩ = some (.slice AB L.length cB) ∧ W.cell? ⟨w4.heap.size, 0, none⟩ = some (.int .i64 z) ∧ W.cell? ⟨w4.heap.size, 1, none⟩ = some (.slice xA F.length xn) ∧ W.cell? ⟨w4.heap.size, 2, none⟩ = some (.slice xB L.length xm)) ∧ Below w7.heap.size w7 W) w8 := ⟨⟨(bold hb56 _ _ (by omega)).trans S0.1.1, (bold hb56 _ _ (by omega)).trans S0.1.2.1, (bold hb56 _ _ (by omega)).trans S0.1.2.2.1, (bold hb56 _ _ (by omega)).trans S0.1.2.2.2.1, (bold hb56 _ _ (by omega)).trans S0.1.2.2.2.2.1, (bold hb56 _ _ (by omega)).trans S0.1.2.2.2.2.2⟩, hb56⟩)
      | (go_at_call 12; go_must (refine (eqColumn_any w8 w8.heap.size w8.heap.size xA xB P6 Q6 xn xm n6 m6 z F L lf lb (Nat.le_refl _) (Nat.le_refl _) (RF_x.out.call hb56).il (RL_x.out.call hb56).xl HP6.out HQ6.out).mono ?_); rintro e w9 ⟨rfl, hb7⟩; have hb57 := bthen hb56 hb7; have S7 : (fun W : World => (W.cell? ⟨w.heap.size, 0, none⟩ = some (.int .i64 z) ∧ W.cell? ⟨w.heap.size, 1, none⟩ = some (.slice AF F.length cF) ∧ W.cell? ⟨w.heap.size, 2, none⟩ = some (.slice AB L.length cB) ∧ W.cell? ⟨w4.heap.size, 0, none⟩ = some (.int .i64 z) ∧ W.cell? ⟨w4.heap.size, 1, none⟩ = some (.slice xA F.length xn) ∧ W.cell? ⟨w4.heap.size, 2, none⟩ = some (.slice xB L.length xm)) ∧ Below w7.heap.size w7 W) w9 := ⟨⟨(bold hb57 _ _ (by omega)).trans S0.1.1, (bold hb57 _ _ (by omega)).trans S0.1.2.1, (bold hb57 _ _ (by omega)).trans S0.1.2.2.1, (bold hb57 _ _ (by omega)).trans S0.1.2.2.2.1, (bold hb57 _ _ (by omega)).trans S0.1.2.2.2.2.1, (bold hb57 _ _ (by omega)).trans S0.1.2.2.2.2.2⟩, hb57⟩))
    have hsw8 := hb57.size
    have hb := hb57
    clear hb57 hb56 hb7 S0 S6 S7 Cd hwd HP6 HQ6
    have hsw9 := hb.size
    have hw : Within 0 0 w7 w9 := Within.of_below hb
    have kk := hw.has K_a.out (by omega); clear K_a; have K_a := Lib.hid kk; clear kk
    have kk := hw.has K_x.out (by omega); clear K_x; have K_x := Lib.hid kk; clear kk
    have kk := hw.oi RF_s.out (by omega); clear RF_s; have RF_s := Lib.hid kk; clear kk
    have kk := hw.oi RL_s.out (by omega); clear RL_s; have RL_s := Lib.hid kk; clear kk
    have kk := hw.oi RF_x.out (by omega); clear RF_x; have RF_x := Lib.hid kk; clear kk
    have kk := hw.oi RL_x.out (by omega); clear RL_x; have RL_x := Lib.hid kk; clear kk
    have kk := hw.oi RG_r.out (by omega); clear RG_r; have RG_r := Lib.hid kk; clear kk
    have kk := hw.oi RG_g.out (by omega); clear RG_g; have RG_g := Lib.hid kk; clear kk
    have kk := bthen C.out hb; clear C; have C := Lib.hid kk; clear kk
    clear hw
    clear hb
    have ex0 := has_cell K_x.out 0 rfl
    have ex1 := has_cell K_x.out 1 rfl
    have ex2 := has_cell K_x.out 2 rfl
    have hhx := has_lt K_x.out
    go_wp2_with fail
    refine (markCol_any w9 (w3.heap.size) (w4.heap.size) z xA xB xn xm F L 1 lf1 lb1 (by omega) (by omega) RF_x.out RL_x.out).mono ?_
    rintro e w10 ⟨rfl, hF, hL, hw⟩
    clear RF_x RL_x; have RF_x := Lib.hid hF; have RL_x := Lib.hid hL; clear hF hL
    have hsw10 := hw.size
    have kk := hw.has K_a.out (by omega); clear K_a; have K_a := Lib.hid kk; clear kk
    have kk := hw.has K_x.out (by omega); clear K_x; have K_x := Lib.hid kk; clear kk
    have kk := hw.oi RF_s.out (by omega); clear RF_s; have RF_s := Lib.hid kk; clear kk
    have kk := hw.oi RL_s.out (by omega); clear RL_s; have RL_s := Lib.hid kk; clear kk
    have kk := hw.oi RG_r.out (by omega); clear RG_r; have RG_r := Lib.hid kk; clear kk
    have kk := hw.oi RG_g.out (by omega); clear RG_g; have RG_g := Lib.hid kk; clear kk
    have kk := C.out.trans (hw.below (B := w.heap.size) (by omega) (by omega)); clear C; have C := Lib.hid kk; clear kk
    clear hw
    clear ex0 ex1 ex2 hhx
    go_wp2_with fail
    refine (eqGapS_any w10 w10.heap.size w10.heap.size gA rA gn rn G hGm (Nat.le_refl _) (Nat.le_refl _) RG_g.out.gp RG_r.out.gp).mono ?_
    rintro e w11 ⟨rfl, hb⟩
    have hsw11 := hb.size
    have hw : Within 0 0 w10 w11 := Within.of_below hb
    have kk := hw.has K_a.out (by omega); clear K_a; have K_a := Lib.hid kk; clear kk
    have kk := hw.has K_x.out (by omega); clear K_x; have K_x := Lib.hid kk; clear kk
    have kk := hw.oi RF_s.out (by omega); clear RF_s; have RF_s := Lib.hid kk; clear kk
    have kk := hw.oi RL_s.out (by omega); clear RL_s; have RL_s := Lib.hid kk; clear kk
    have kk := hw.oi RF_x.out (by omega); clear RF_x; have RF_x := Lib.hid kk; clear kk
    have kk := hw.oi RL_x.out (by omega); clear RL_x; have RL_x := Lib.hid kk; clear kk
    have kk := hw.oi RG_r.out (by omega); clear RG_r; have RG_r := Lib.hid kk; clear kk
    have kk := hw.oi RG_g.out (by omega); clear RG_g; have RG_g := Lib.hid kk; clear kk
    have kk := bthen C.out hb; clear C; have C := Lib.hid kk; clear kk
    clear hw
    clear hb
    go_wp2_with fail
    refine (markGap_any w11 (w5.heap.size) gA gn G 1 hGl (by omega) (by omega) RG_g.out.or_).mono ?_
    rintro e w12 ⟨rfl, hF, hmk⟩
    have hw := within_marks RG_g.out hmk
    have kk := oi_marked RG_g.out hF gpV_seq; clear RG_g; have RG_g := Lib.hid kk; clear kk hF hmk
    have hsw12 := hw.size
    have kk := hw.has K_a.out (by omega); clear K_a; have K_a := Lib.hid kk; clear kk
    have kk := hw.has K_x.out (by omega); clear K_x; have K_x := Lib.hid kk; clear kk
    have kk := hw.oi RF_s.out (by omega); clear RF_s; have RF_s := Lib.hid kk; clear kk
    have kk := hw.oi RL_s.out (by omega); clear RL_s; have RL_s := Lib.hid kk; clear kk
    have kk := hw.oi RF_x.out (by omega); clear RF_x; have RF_x := Lib.hid kk; clear kk
    have kk := hw.oi RL_x.out (by omega); clear RL_x; have RL_x := Lib.hid kk; clear kk
    have kk := hw.oi RG_r.out (by omega); clear RG_r; have RG_r := Lib.hid kk; clear kk
    have kk := C.out.trans (hw.below (B := w.heap.size) (by omega) (by omega)); clear C; have C := Lib.hid kk; clear kk
    clear hw
    go_wp2_with fail
    refine (heldGap_any w12 w12.heap.size gA gn G.length 1 hGl (by omega) (by omega) (Nat.le_refl _) RG_g.out.gp).mono ?_
    rintro e w13 ⟨rfl, hb⟩
    have hsw13 := hb.size
    have hw : Within 0 0 w12 w13 := Within.of_below hb
    have kk := hw.has K_a.out (by omega); clear K_a; have K_a := Lib.hid kk; clear kk
    have kk := hw.has K_x.out (by omega); clear K_x; have K_x := Lib.hid kk; clear kk
    have kk := hw.oi RF_s.out (by omega); clear RF_s; have RF_s := Lib.hid kk; clear kk
    have kk := hw.oi RL_s.out (by omega); clear RL_s; have RL_s := Lib.hid kk; clear kk
    have kk := hw.oi RF_x.out (by omega); clear RF_x; have RF_x := Lib.hid kk; clear kk
    have kk := hw.oi RL_x.out (by omega); clear RL_x; have RL_x := Lib.hid kk; clear kk
    have kk := hw.oi RG_r.out (by omega); clear RG_r; have RG_r := Lib.hid kk; clear kk
    have kk := hw.oi RG_g.out (by omega); clear RG_g; have RG_g := Lib.hid kk; clear kk
    have kk := bthen C.out hb; clear C; have C := Lib.hid kk; clear kk
    clear hw
    clear hb
    have nq : ((1 + 3 * (G.length : Int)) != (1 + 3 * (G.length : Int))) = false := by simp
    have ea0 := has_cell K_a.out 0 rfl
    have ea1 := has_cell K_a.out 1 rfl
    have ea2 := has_cell K_a.out 2 rfl
    have hha := has_lt K_a.out
    go_wp2_with fail
    refine (toColumn_any w13 w.heap.size AF AB cF cB z F L lf1 lb1 (by omega) (HS.out.below C.out) (HT.out.below C.out)).mono ?_
    rintro e w14 ⟨dA, dB, dn, dm, rfl, hP, hQ, hb⟩
    have RF_d := Lib.hid (OI.of_or hP); have RL_d := Lib.hid (OI.of_or hQ); clear hP hQ
    have hsw14 := hb.size
    have hw : Within 0 0 w13 w14 := Within.of_below hb
    have kk := hw.has K_a.out (by omega); clear K_a; have K_a := Lib.hid kk; clear kk
    have kk := hw.has K_x.out (by omega); clear K_x; have K_x := Lib.hid kk; clear kk
    have kk := hw.oi RF_s.out (by omega); clear RF_s; have RF_s := Lib.hid kk; clear kk
    have kk := hw.oi RL_s.out (by omega); clear RL_s; have RL_s := Lib.hid kk; clear kk
    have kk := hw.oi RF_x.out (by omega); clear RF_x; have RF_x := Lib.hid kk; clear kk
    have kk := hw.oi RL_x.out (by omega); clear RL_x; have RL_x := Lib.hid kk; clear kk
    have kk := hw.oi RG_r.out (by omega); clear RG_r; have RG_r := Lib.hid kk; clear kk
    have kk := hw.oi RG_g.out (by omega); clear RG_g; have RG_g := Lib.hid kk; clear kk
    have kk := bthen C.out hb; clear C; have C := Lib.hid kk; clear kk
    clear hw
    clear hb
    clear ea0 ea1 ea2 hha
    clear nq
    go_wp2_with fail
    refine (gapsI_any w14 w14.heap.size ⟨z, dA, F, dn, dB, L, dm⟩ (Nat.le_refl _) (show CV w14 w14.heap.size ⟨z, dA, F, dn, dB, L, dm⟩ from ⟨RF_d.out.il, RL_d.out.xl, lf, lb⟩)).mono ?_
    rintro e w15 hans
    dsimp only at hans
    rw [HG.out] at hans
    obtain ⟨vA, vn, rfl, hP, hb⟩ := hans
    have RG_v := Lib.hid (OI.of_or hP); clear hP
    have hsw15 := hb.size
    have hw : Within 0 0 w14 w15 := Within.of_below hb
    have kk := hw.has K_a.out (by omega); clear K_a; have K_a := Lib.hid kk; clear kk
    have kk := hw.has K_x.out (by omega); clear K_x; have K_x := Lib.hid kk; clear kk
    have kk := hw.oi RF_s.out (by omega); clear RF_s; have RF_s := Lib.hid kk; clear kk
    have kk := hw.oi RL_s.out (by omega); clear RL_s; have RL_s := Lib.hid kk; clear kk
    have kk := hw.oi RF_x.out (by omega); clear RF_x; have RF_x := Lib.hid kk; clear kk
    have kk := hw.oi RL_x.out (by omega); clear RL_x; have RL_x := Lib.hid kk; clear kk
    have kk := hw.oi RF_d.out (by omega); clear RF_d; have RF_d := Lib.hid kk; clear kk
    have kk := hw.oi RL_d.out (by omega); clear RL_d; have RL_d := Lib.hid kk; clear kk
    have kk := hw.oi RG_r.out (by omega); clear RG_r; have RG_r := Lib.hid kk; clear kk
    have kk := hw.oi RG_g.out (by omega); clear RG_g; have RG_g := Lib.hid kk; clear kk
    have kk := bthen C.out hb; clear C; have C := Lib.hid kk; clear kk
    clear hw
    clear hb
    go_wp2_with fail
    refine (eqGapS_any w15 w15.heap.size w15.heap.size vA rA vn rn G hGm (Nat.le_refl _) (Nat.le_refl _) RG_v.out.gp RG_r.out.gp).mono ?_
    rintro e w16 ⟨rfl, hb⟩
    have hsw16 := hb.size
    have hw : Within 0 0 w15 w16 := Within.of_below hb
    have kk := hw.has K_a.out (by omega); clear K_a; have K_a := Lib.hid kk; clear kk
    have kk := hw.has K_x.out (by omega); clear K_x; have K_x := Lib.hid kk; clear kk
    have kk := hw.oi RF_s.out (by omega); clear RF_s; have RF_s := Lib.hid kk; clear kk
    have kk := hw.oi RL_s.out (by omega); clear RL_s; have RL_s := Lib.hid kk; clear kk
    have kk := hw.oi RF_x.out (by omega); clear RF_x; have RF_x := Lib.hid kk; clear kk
    have kk := hw.oi RL_x.out (by omega); clear RL_x; have RL_x := Lib.hid kk; clear kk
    have kk := hw.oi RF_d.out (by omega); clear RF_d; have RF_d := Lib.hid kk; clear kk
    have kk := hw.oi RL_d.out (by omega); clear RL_d; have RL_d := Lib.hid kk; clear kk
    have kk := hw.oi RG_r.out (by omega); clear RG_r; have RG_r := Lib.hid kk; clear kk
    have kk := hw.oi RG_g.out (by omega); clear RG_g; have RG_g := Lib.hid kk; clear kk
    have kk := hw.oi RG_v.out (by omega); clear RG_v; have RG_v := Lib.hid kk; clear kk
    have kk := bthen C.out hb; clear C; have C := Lib.hid kk; clear kk
    clear hw
    clear hb
    go_wp2_with fail
    refine (heldGap_any w16 w16.heap.size gA gn G.length 1 hGl (by omega) (by omega) (Nat.le_refl _) RG_g.out.gp).mono ?_
    rintro e w17 ⟨rfl, hb⟩
    have hsw17 := hb.size
    have hw : Within 0 0 w16 w17 := Within.of_below hb
    have kk := hw.has K_a.out (by omega); clear K_a; have K_a := Lib.hid kk; clear kk
    have kk := hw.has K_x.out (by omega); clear K_x; have K_x := Lib.hid kk; clear kk
    have kk := hw.oi RF_s.out (by omega); clear RF_s; have RF_s := Lib.hid kk; clear kk
    have kk := hw.oi RL_s.out (by omega); clear RL_s; have RL_s := Lib.hid kk; clear kk
    have kk := hw.oi RF_x.out (by omega); clear RF_x; have RF_x := Lib.hid kk; clear kk
    have kk := hw.oi RL_x.out (by omega); clear RL_x; have RL_x := Lib.hid kk; clear kk
    have kk := hw.oi RF_d.out (by omega); clear RF_d; have RF_d := Lib.hid kk; clear kk
    have kk := hw.oi RL_d.out (by omega); clear RL_d; have RL_d := Lib.hid kk; clear kk
    have kk := hw.oi RG_r.out (by omega); clear RG_r; have RG_r := Lib.hid kk; clear kk
    have kk := hw.oi RG_g.out (by omega); clear RG_g; have RG_g := Lib.hid kk; clear kk
    have kk := hw.oi RG_v.out (by omega); clear RG_v; have RG_v := Lib.hid kk; clear kk
    have kk := bthen C.out hb; clear C; have C := Lib.hid kk; clear kk
    clear hw
    clear hb
    have nq : ((1 + 3 * (G.length : Int)) != (1 + 3 * (G.length : Int))) = false := by simp
    go_wp2_with fail
    go_ret
    exact ⟨rfl, C.out⟩
end Go.Proofs.Ytodomhmadfnogaa
