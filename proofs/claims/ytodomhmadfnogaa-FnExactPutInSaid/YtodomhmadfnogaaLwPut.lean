/- Chapter 2: the walk of the law FnExactPutIn, over the contracts of what it calls. -/
import Derived.Test.YtodomhmadfnogaaGapO
import Derived.Test.YtodomhmadfnogaaColR
import Derived.Deep.RegionHeld3
import Derived.Deep.DeepMust
namespace Go.Proofs.Ytodomhmadfnogaa
open Go.RowKit
set_option linter.unusedVariables false

set_option maxRecDepth 100000 in
set_option maxHeartbeats 4000000 in
theorem putLaw_walk (AF AB : Option Addr) (cF cB : Nat) (z : Int) (F : List Int) (L : List Bx) (p : Int) (size : Int) (w : World) (lf : F.length ≤ maxLen) (lb : L.length ≤ maxLen) (hS : IL w w.heap.size AF F) (hT : XL w w.heap.size AB L) :
    Calls Try.prog 5 #[.agg #[.int .i64 z, .slice AF F.length cF, .slice AB L.length cB], .int .i64 p, .int .i64 size] w fun e w' => e = .returned (.bool true) ∧ Below w.heap.size w w' := by
  have HS := Lib.hid hS; clear hS
  have HT := Lib.hid hT; clear hT
  by_cases hbig : (1048576 : Int) < F.length + L.length
  · have hs : szC 1048576 F.length L.length = -1 := if_pos hbig
    have Hs := Lib.hid hs; clear hs
    go_enter Try.func5, Try.ntmps5
    go_wp2_with fail
    refine (szColumn_any _ AF AB F.length cF L.length cB z 1048576 lf lb (by omega) (by omega)).mono ?_
    rintro e w1 ⟨rfl, hb1⟩
    rw [Hs.out]
    go_wp2_with fail
    go_ret
    exact ⟨rfl, bthen (balloc _ _) hb1⟩
  · have hs : szC 1048576 F.length L.length = 1048576 - F.length - L.length := if_neg hbig
    have lf1 : F.length ≤ 1048576 := by omega
    have lb1 : L.length ≤ 1048576 := by omega
    have Hs := Lib.hid hs; clear hs
    go_enter Try.func5, Try.ntmps5
    go_wp2_with fail
    generalize hX : (w.alloc (.cells #[.int .i64 z, .slice AF F.length cF, .slice AB L.length cB] 25)) = w0
    have hb : Below w.heap.size w w0 := by rw [← hX]; exact balloc _ _
    have K_a := Lib.hid (show Has w0 w.heap.size 25 #[.int .i64 z, .slice AF F.length cF, .slice AB L.length cB] by rw [← hX]; exact has_new _ _ _)
    clear hX
    have C := Lib.hid hb; clear hb
    have hla := has_lt K_a.out
    refine (szColumn_any w0 AF AB F.length cF L.length cB z 1048576 lf lb (by omega) (by omega)).mono ?_
    rintro e w1 ⟨rfl, hb⟩
    rw [Hs.out]
    have hsw1 := hb.size
    have hw : Within 0 0 w0 w1 := Within.of_below hb
    have kk := hw.has K_a.out (by omega); clear K_a; have K_a := Lib.hid kk; clear kk
    have kk := bthen C.out hb; clear C; have C := Lib.hid kk; clear kk
    clear hw
    clear hb
    have ea0 := has_cell K_a.out 0 rfl
    have ea1 := has_cell K_a.out 1 rfl
    have ea2 := has_cell K_a.out 2 rfl
    have hha := has_lt K_a.out
    go_wp2_with fail
    refine (toColumn_any w1 w.heap.size AF AB cF cB z F L lf1 lb1 (by omega) (HS.out.below C.out) (HT.out.below C.out)).mono ?_
    rintro e w2 ⟨sA, sB, sn, sm, rfl, hP, hQ, hb⟩
    have RF_s := Lib.hid (OI.of_or hP); have RL_s := Lib.hid (OI.of_or hQ); clear hP hQ
    have hsw2 := hb.size
    have hw : Within 0 0 w1 w2 := Within.of_below hb
    have kk := hw.has K_a.out (by omega); clear K_a; have K_a := Lib.hid kk; clear kk
    have kk := bthen C.out hb; clear C; have C := Lib.hid kk; clear kk
    clear hw
    clear hb
    clear ea0 ea1 ea2 hha
    go_wp2_with fail
    refine (putS_any w2 w2.heap.size ⟨z, sA, F, sn, sB, L, sm⟩ p size lf1 lb1 (Nat.le_refl _) (show CV w2 w2.heap.size ⟨z, sA, F, sn, sB, L, sm⟩ from ⟨RF_s.out.il, RL_s.out.xl, lf, lb⟩)).mono ?_
    rintro e w3 ⟨rz, rF, rL, ri, rb, rA, rB, rn, rm, rfl, hres, hlf, hlb, hP, hQ, hb⟩
    have HRES := Lib.hid hres; clear hres
    have RF_r := Lib.hid (OI.of_or hP); have RL_r := Lib.hid (OI.of_or hQ); clear hP hQ
    have hsw3 := hb.size
    have hw : Within 0 0 w2 w3 := Within.of_below hb
    have kk := hw.has K_a.out (by omega); clear K_a; have K_a := Lib.hid kk; clear kk
    have kk := hw.oi RF_s.out (by omega); clear RF_s; have RF_s := Lib.hid kk; clear kk
    have kk := hw.oi RL_s.out (by omega); clear RL_s; have RL_s := Lib.hid kk; clear kk
    have kk := bthen C.out hb; clear C; have C := Lib.hid kk; clear kk
    clear hw
    clear hb
    have HLF : rF.length ≤ maxLen := by unfold maxLen; omega
    have HLB : rL.length ≤ maxLen := by unfold maxLen; omega
    have hlf1 : rF.length ≤ 1048576 := hlf
    have hlb1 : rL.length ≤ 1048576 := hlb
    clear hlf hlb
    have ea0 := has_cell K_a.out 0 rfl
    have ea1 := has_cell K_a.out 1 rfl
    have ea2 := has_cell K_a.out 2 rfl
    have hha := has_lt K_a.out
    go_wp2_with fail
    clear ea0 ea1 ea2 hha
    generalize hX : (w3.alloc (.cells #[.int .i64 rz, .slice rA rF.length rn, .slice rB rL.length rm] 31)) = w4
    have hb : Below w3.heap.size w3 w4 := by rw [← hX]; exact balloc _ _
    have K_r := Lib.hid (show Has w4 w3.heap.size 31 #[.int .i64 rz, .slice rA rF.length rn, .slice rB rL.length rm] by rw [← hX]; exact has_new _ _ _)
    clear hX
    have hlr := has_lt K_r.out
    have hsw4 := hb.size
    have hw : Within 0 0 w3 w4 := Within.of_below hb
    have kk := hw.has K_a.out (by omega); clear K_a; have K_a := Lib.hid kk; clear kk
    have kk := hw.oi RF_s.out (by omega); clear RF_s; have RF_s := Lib.hid kk; clear kk
    have kk := hw.oi RL_s.out (by omega); clear RL_s; have RL_s := Lib.hid kk; clear kk
    have kk := hw.oi RF_r.out (by omega); clear RF_r; have RF_r := Lib.hid kk; clear kk
    have kk := hw.oi RL_r.out (by omega); clear RL_r; have RL_r := Lib.hid kk; clear kk
    have kk := bthen C.out hb; clear C; have C := Lib.hid kk; clear kk
    clear hw
    clear hb
    go_wp2_with fail
    refine (toColumn_any w4 w.heap.size AF AB cF cB z F L lf1 lb1 (by omega) (HS.out.below C.out) (HT.out.below C.out)).mono ?_
    rintro e w5 ⟨xA, xB, xn, xm, rfl, hP, hQ, hb⟩
    have RF_x := Lib.hid (OI.of_or hP); have RL_x := Lib.hid (OI.of_or hQ); clear hP hQ
    have hsw5 := hb.size
    have hw : Within 0 0 w4 w5 := Within.of_below hb
    have kk := hw.has K_a.out (by omega); clear K_a; have K_a := Lib.hid kk; clear kk
    have kk := hw.has K_r.out (by omega); clear K_r; have K_r := Lib.hid kk; clear kk
    have kk := hw.oi RF_s.out (by omega); clear RF_s; have RF_s := Lib.hid kk; clear kk
    have kk := hw.oi RL_s.out (by omega); clear RL_s; have RL_s := Lib.hid kk; clear kk
    have kk := hw.oi RF_r.out (by omega); clear RF_r; have RF_r := Lib.hid kk; clear kk
    have kk := hw.oi RL_r.out (by omega); clear RL_r; have RL_r := Lib.hid kk; clear kk
    have kk := bthen C.out hb; clear C; have C := Lib.hid kk; clear kk
    clear hw
    clear hb
    go_wp2_with fail
    generalize hX : (w5.alloc (.cells #[.int .i64 z, .slice xA F.length xn, .slice xB L.length xm] 31)) = w6
    have hb : Below w5.heap.size w5 w6 := by rw [← hX]; exact balloc _ _
    have K_x := Lib.hid (show Has w6 w5.heap.size 31 #[.int .i64 z, .slice xA F.length xn, .slice xB L.length xm] by rw [← hX]; exact has_new _ _ _)
    clear hX
    have hlx := has_lt K_x.out
    have hsw6 := hb.size
    have hw : Within 0 0 w5 w6 := Within.of_below hb
    have kk := hw.has K_a.out (by omega); clear K_a; have K_a := Lib.hid kk; clear kk
    have kk := hw.has K_r.out (by omega); clear K_r; have K_r := Lib.hid kk; clear kk
    have kk := hw.oi RF_s.out (by omega); clear RF_s; have RF_s := Lib.hid kk; clear kk
    have kk := hw.oi RL_s.out (by omega); clear RL_s; have RL_s := Lib.hid kk; clear kk
    have kk := hw.oi RF_r.out (by omega); clear RF_r; have RF_r := Lib.hid kk; clear kk
    have kk := hw.oi RL_r.out (by omega); clear RL_r; have RL_r := Lib.hid kk; clear kk
    have kk := hw.oi RF_x.out (by omega); clear RF_x; have RF_x := Lib.hid kk; clear kk
    have kk := hw.oi RL_x.out (by omega); clear RL_x; have RL_x := Lib.hid kk; clear kk
    have kk := bthen C.out hb; clear C; have C := Lib.hid kk; clear kk
    clear hw
    clear hb
    go_wp2_with fail
    refine (putI_any w6 w6.heap.size ⟨z, xA, F, xn, xB, L, xm⟩ p size lf1 lb1 (Nat.le_refl _) (show CV w6 w6.heap.size ⟨z, xA, F, xn, xB, L, xm⟩ from ⟨RF_x.out.il, RL_x.out.xl, lf, lb⟩)).mono ?_
    rintro e w7 ⟨gz, gF, gL, gi, gb, gA, gB, gn, gm, rfl, hres, hlf, hlb, hP, hQ, hb⟩
    have HR2 := Lib.hid hres; clear hres
    obtain ⟨rfl, rfl, rfl, rfl, rfl⟩ : rz = gz ∧ rF = gF ∧ rL = gL ∧ ri = gi ∧ rb = gb := put_det HRES.out HR2.out
    clear HR2
    have RF_g := Lib.hid (OI.of_or hP); have RL_g := Lib.hid (OI.of_or hQ); clear hP hQ
    have hsw7 := hb.size
    have hw : Within 0 0 w6 w7 := Within.of_below hb
    have kk := hw.has K_a.out (by omega); clear K_a; have K_a := Lib.hid kk; clear kk
    have kk := hw.has K_r.out (by omega); clear K_r; have K_r := Lib.hid kk; clear kk
    have kk := hw.has K_x.out (by omega); clear K_x; have K_x := Lib.hid kk; clear kk
    have kk := hw.oi RF_s.out (by omega); clear RF_s; have RF_s := Lib.hid kk; clear kk
    have kk := hw.oi RL_s.out (by omega); clear RL_s; have RL_s := Lib.hid kk; clear kk
    have kk := hw.oi RF_r.out (by omega); clear RF_r; have RF_r := Lib.hid kk; clear kk
    have kk := hw.oi RL_r.out (by omega); clear RL_r; have RL_r := Lib.hid kk; clear kk
    have kk := hw.oi RF_x.out (by omega); clear RF_x; have RF_x := Lib.hid kk; clear kk
    have kk := hw.oi RL_x.out (by omega); clear RL_x; have RL_x := Lib.hid kk; clear kk
    have kk := bthen C.out hb; clear C; have C := Lib.hid kk; clear kk
    clear hw
    clear hb
    have er0 := has_cell K_r.out 0 rfl
    have er1 := has_cell K_r.out 1 rfl
    have er2 := has_cell K_r.out 2 rfl
    have hhr := has_lt K_r.out
    go_wp2_with fail
    clear er0 er1 er2 hhr
    generalize hX : (w7.alloc (.cells #[.int .i64 rz, .slice gA rF.length gn, .slice gB rL.length gm] 31)) = w8
    have hb : Below w7.heap.size w7 w8 := by rw [← hX]; exact balloc _ _
    have K_g := Lib.hid (show Has w8 w7.heap.size 31 #[.int .i64 rz, .slice gA rF.length gn, .slice gB rL.length gm] by rw [← hX]; exact has_new _ _ _)
    clear hX
    have hlg := has_lt K_g.out
    have hsw8 := hb.size
    have hw : Within 0 0 w7 w8 := Within.of_below hb
    have kk := hw.has K_a.out (by omega); clear K_a; have K_a := Lib.hid kk; clear kk
    have kk := hw.has K_r.out (by omega); clear K_r; have K_r := Lib.hid kk; clear kk
    have kk := hw.has K_x.out (by omega); clear K_x; have K_x := Lib.hid kk; clear kk
    have kk := hw.oi RF_s.out (by omega); clear RF_s; have RF_s := Lib.hid kk; clear kk
    have kk := hw.oi RL_s.out (by omega); clear RL_s; have RL_s := Lib.hid kk; clear kk
    have kk := hw.oi RF_r.out (by omega); clear RF_r; have RF_r := Lib.hid kk; clear kk
    have kk := hw.oi RL_r.out (by omega); clear RL_r; have RL_r := Lib.hid kk; clear kk
    have kk := hw.oi RF_x.out (by omega); clear RF_x; have RF_x := Lib.hid kk; clear kk
    have kk := hw.oi RL_x.out (by omega); clear RL_x; have RL_x := Lib.hid kk; clear kk
    have kk := hw.oi RF_g.out (by omega); clear RF_g; have RF_g := Lib.hid kk; clear kk
    have kk := hw.oi RL_g.out (by omega); clear RL_g; have RL_g := Lib.hid kk; clear kk
    have kk := bthen C.out hb; clear C; have C := Lib.hid kk; clear kk
    clear hw
    clear hb
    go_wp2_with fail
    refine (eqColumn_any w8 w8.heap.size w8.heap.size gA gB rA rB gn gm rn rm rz rF rL HLF HLB (Nat.le_refl _) (Nat.le_refl _) RF_g.out.il RL_g.out.xl RF_r.out.il RL_r.out.xl).mono ?_
    rintro e w9 ⟨rfl, hb⟩
    have hsw9 := hb.size
    have hw : Within 0 0 w8 w9 := Within.of_below hb
    have kk := hw.has K_a.out (by omega); clear K_a; have K_a := Lib.hid kk; clear kk
    have kk := hw.has K_r.out (by omega); clear K_r; have K_r := Lib.hid kk; clear kk
    have kk := hw.has K_x.out (by omega); clear K_x; have K_x := Lib.hid kk; clear kk
    have kk := hw.has K_g.out (by omega); clear K_g; have K_g := Lib.hid kk; clear kk
    have kk := hw.oi RF_s.out (by omega); clear RF_s; have RF_s := Lib.hid kk; clear kk
    have kk := hw.oi RL_s.out (by omega); clear RL_s; have RL_s := Lib.hid kk; clear kk
    have kk := hw.oi RF_r.out (by omega); clear RF_r; have RF_r := Lib.hid kk; clear kk
    have kk := hw.oi RL_r.out (by omega); clear RL_r; have RL_r := Lib.hid kk; clear kk
    have kk := hw.oi RF_x.out (by omega); clear RF_x; have RF_x := Lib.hid kk; clear kk
    have kk := hw.oi RL_x.out (by omega); clear RL_x; have RL_x := Lib.hid kk; clear kk
    have kk := hw.oi RF_g.out (by omega); clear RF_g; have RF_g := Lib.hid kk; clear kk
    have kk := hw.oi RL_g.out (by omega); clear RL_g; have RL_g := Lib.hid kk; clear kk
    have kk := bthen C.out hb; clear C; have C := Lib.hid kk; clear kk
    clear hw
    clear hb
    have ni : (ri != ri) = false := by simp
    have nb : (rb != rb) = false := by simp
    go_wp2_with fail
    clear ni
    clear nb
    have ea0 := has_cell K_a.out 0 rfl
    have ea1 := has_cell K_a.out 1 rfl
    have ea2 := has_cell K_a.out 2 rfl
    have hha := has_lt K_a.out
    have ex0 := has_cell K_x.out 0 rfl
    have ex1 := has_cell K_x.out 1 rfl
    have ex2 := has_cell K_x.out 2 rfl
    have hhx := has_lt K_x.out
    have S0 : (fun W : World => (W.cell? ⟨w.heap.size, 0, none⟩ = some (.int .i64 z) ∧ W.cell? ⟨w.heap.size, 1, none⟩ = some (.slice AF F.length cF) ∧ W.cell? ⟨w.heap.size, 2, none⟩ = some (.slice AB L.length cB) ∧ W.cell? ⟨w5.heap.size, 0, none⟩ = some (.int .i64 z) ∧ W.cell? ⟨w5.heap.size, 1, none⟩ = some (.slice xA F.length xn) ∧ W.cell? ⟨w5.heap.size, 2, none⟩ = some (.slice xB L.length xm)) ∧ Below w9.heap.size w9 W) w9.drew := ⟨⟨ea0, ea1, ea2, ex0, ex1, ex2⟩, (Below.refl _ _).drew⟩
    clear ea0 ea1 ea2 ex0 ex1 ex2 hha hhx
    have Cd := Lib.hid (C.out.drew)
    have hka : w.heap.size < w9.heap.size := has_lt K_a.out
    have hkx : w5.heap.size < w9.heap.size := has_lt K_x.out
    have hwd : w.heap.size ≤ w9.drew.heap.size := by simp; omega
    go_region_held3 (fun W : World => (W.cell? ⟨w.heap.size, 0, none⟩ = some (.int .i64 z) ∧ W.cell? ⟨w.heap.size, 1, none⟩ = some (.slice AF F.length cF) ∧ W.cell? ⟨w.heap.size, 2, none⟩ = some (.slice AB L.length cB) ∧ W.cell? ⟨w5.heap.size, 0, none⟩ = some (.int .i64 z) ∧ W.cell? ⟨w5.heap.size, 1, none⟩ = some (.slice xA F.length xn) ∧ W.cell? ⟨w5.heap.size, 2, none⟩ = some (.slice xB L.length xm)) ∧ Below w9.heap.size w9 W) (first | assumption) (first
      | (go_at_call 9; go_must (refine (toColumn_any w9.drew w.heap.size AF AB cF cB z F L lf1 lb1 hwd (HS.out.below Cd.out) (HT.out.below Cd.out)).mono ?_); rintro e w10 ⟨P6, Q6, n6, m6, rfl, hP6, hQ6, hb6⟩; have HP6 := Lib.hid hP6.il; have HQ6 := Lib.hid hQ6.xl; clear hP6 hQ6; have hb56 : Below w9.heap.size w9 w10 := ((Below.refl w9.heap.size w9).drew).trans hb6; have hz56 := hb56.size; clear hb6; have S6 : (fun W : World => (W.cell? ⟨w.heap.size, 0, none⟩ = some (.int .i64 z) ∧ W.cell? ⟨w.heap.size, 1, none⟩ = some (.slice AF F.length cF) ∧ W.cell? ⟨w.heap.size, 2, none⟩ = some (.slice AB L.length cB) ∧ W.cell? ⟨w5.heap.size, 0, none⟩ = some (.int .i64 z) ∧ W.cell? ⟨w5.heap.size, 1, none⟩ = some (.slice xA F.length xn) ∧ W.cell? ⟨w5.heap.size, 2, none⟩ = some (.slice xB L.length xm)) ∧ Below w9.heap.size w9 W) w10 := ⟨⟨(bold hb56 _ _ (by omega)).trans S0.1.1, (bold hb56 _ _ (by omega)).trans S0.1.2.1, (bold hb56 _ _ (by omega)).trans S0.1.2.2.1, (bold hb56 _ _ (by omega)).trans S0.1.2.2.2.1, (bold hb56 _ _ (by omega)).trans S0.1.2.2.2.2.1, (bold hb56 _ _ (by omega)).trans S0.1.2.2.2.2.2⟩, hb56⟩)
      | (go_at_call 12; go_must (refine (eqColumn_any w10 w10.heap.size w10.heap.size xA xB P6 Q6 xn xm n6 m6 z F L lf lb (Nat.le_refl _) (Nat.le_refl _) (RF_x.out.call hb56).il (RL_x.out.call hb56).xl HP6.out HQ6.out).mono ?_); rintro e w11 ⟨rfl, hb7⟩; have hb57 := bthen hb56 hb7; have S7 : (fun W : World => (W.cell? ⟨w.heap.size, 0, none⟩ = some (.int .i64 z) ∧ W.cell? ⟨w.heap.size, 1, none⟩ = some (.slice AF F.length cF) ∧ W.cell? ⟨w.heap.size, 2, none⟩ = some (.slice AB L.length cB) ∧ W.cell? ⟨w5.heap.size, 0, none⟩ = some (.int .i64 z) ∧ W.cell? ⟨w5.heap.size, 1, none⟩ = some (.slice xA F.length xn) ∧ W.cell? ⟨w5.heap.size, 2, none⟩ = some (.slice xB L.length xm)) ∧ Below w9.heap.size w9 W) w11 := ⟨⟨(bold hb57 _ _ (by omega)).trans S0.1.1, (bold hb57 _ _ (by omega)).trans S0.1.2.1, (bold hb57 _ _ (by omega)).trans S0.1.2.2.1, (bold hb57 _ _ (by omega)).trans S0.1.2.2.2.1, (bold hb57 _ _ (by omega)).trans S0.1.2.2.2.2.1, (bold hb57 _ _ (by omega)).trans S0.1.2.2.2.2.2⟩, hb57⟩))
    have hs10 := hb57.size
    have hb := hb57
    clear hb57 hb56 hb7 S0 S6 S7 Cd hwd HP6 HQ6
    have hsw11 := hb.size
    have hw : Within 0 0 w9 w11 := Within.of_below hb
    have kk := hw.has K_a.out (by omega); clear K_a; have K_a := Lib.hid kk; clear kk
    have kk := hw.has K_r.out (by omega); clear K_r; have K_r := Lib.hid kk; clear kk
    have kk := hw.has K_x.out (by omega); clear K_x; have K_x := Lib.hid kk; clear kk
    have kk := hw.has K_g.out (by omega); clear K_g; have K_g := Lib.hid kk; clear kk
    have kk := hw.oi RF_s.out (by omega); clear RF_s; have RF_s := Lib.hid kk; clear kk
    have kk := hw.oi RL_s.out (by omega); clear RL_s; have RL_s := Lib.hid kk; clear kk
    have kk := hw.oi RF_r.out (by omega); clear RF_r; have RF_r := Lib.hid kk; clear kk
    have kk := hw.oi RL_r.out (by omega); clear RL_r; have RL_r := Lib.hid kk; clear kk
    have kk := hw.oi RF_x.out (by omega); clear RF_x; have RF_x := Lib.hid kk; clear kk
    have kk := hw.oi RL_x.out (by omega); clear RL_x; have RL_x := Lib.hid kk; clear kk
    have kk := hw.oi RF_g.out (by omega); clear RF_g; have RF_g := Lib.hid kk; clear kk
    have kk := hw.oi RL_g.out (by omega); clear RL_g; have RL_g := Lib.hid kk; clear kk
    have kk := bthen C.out hb; clear C; have C := Lib.hid kk; clear kk
    clear hw
    clear hb
    have ex0 := has_cell K_x.out 0 rfl
    have ex1 := has_cell K_x.out 1 rfl
    have ex2 := has_cell K_x.out 2 rfl
    have hhx := has_lt K_x.out
    go_wp2_with fail
    refine (markCol_any w11 (w4.heap.size) (w5.heap.size) z xA xB xn xm F L 1 lf1 lb1 (by omega) (by omega) RF_x.out RL_x.out).mono ?_
    rintro e w12 ⟨rfl, hF, hL, hw⟩
    clear RF_x RL_x; have RF_x := Lib.hid hF; have RL_x := Lib.hid hL; clear hF hL
    have hsw12 := hw.size
    have kk := hw.has K_a.out (by omega); clear K_a; have K_a := Lib.hid kk; clear kk
    have kk := hw.has K_r.out (by omega); clear K_r; have K_r := Lib.hid kk; clear kk
    have kk := hw.has K_x.out (by omega); clear K_x; have K_x := Lib.hid kk; clear kk
    have kk := hw.has K_g.out (by omega); clear K_g; have K_g := Lib.hid kk; clear kk
    have kk := hw.oi RF_s.out (by omega); clear RF_s; have RF_s := Lib.hid kk; clear kk
    have kk := hw.oi RL_s.out (by omega); clear RL_s; have RL_s := Lib.hid kk; clear kk
    have kk := hw.oi RF_r.out (by omega); clear RF_r; have RF_r := Lib.hid kk; clear kk
    have kk := hw.oi RL_r.out (by omega); clear RL_r; have RL_r := Lib.hid kk; clear kk
    have kk := hw.oi RF_g.out (by omega); clear RF_g; have RF_g := Lib.hid kk; clear kk
    have kk := hw.oi RL_g.out (by omega); clear RL_g; have RL_g := Lib.hid kk; clear kk
    have kk := C.out.trans (hw.below (B := w.heap.size) (by omega) (by omega)); clear C; have C := Lib.hid kk; clear kk
    clear hw
    clear ex0 ex1 ex2 hhx
    have eg0 := has_cell K_g.out 0 rfl
    have eg1 := has_cell K_g.out 1 rfl
    have eg2 := has_cell K_g.out 2 rfl
    have hhg := has_lt K_g.out
    have er0 := has_cell K_r.out 0 rfl
    have er1 := has_cell K_r.out 1 rfl
    have er2 := has_cell K_r.out 2 rfl
    have hhr := has_lt K_r.out
    go_wp2_with fail
    refine (eqColumn_any w12 w12.heap.size w12.heap.size gA gB rA rB gn gm rn rm rz rF rL HLF HLB (Nat.le_refl _) (Nat.le_refl _) RF_g.out.il RL_g.out.xl RF_r.out.il RL_r.out.xl).mono ?_
    rintro e w13 ⟨rfl, hb⟩
    have hsw13 := hb.size
    have hw : Within 0 0 w12 w13 := Within.of_below hb
    have kk := hw.has K_a.out (by omega); clear K_a; have K_a := Lib.hid kk; clear kk
    have kk := hw.has K_r.out (by omega); clear K_r; have K_r := Lib.hid kk; clear kk
    have kk := hw.has K_x.out (by omega); clear K_x; have K_x := Lib.hid kk; clear kk
    have kk := hw.has K_g.out (by omega); clear K_g; have K_g := Lib.hid kk; clear kk
    have kk := hw.oi RF_s.out (by omega); clear RF_s; have RF_s := Lib.hid kk; clear kk
    have kk := hw.oi RL_s.out (by omega); clear RL_s; have RL_s := Lib.hid kk; clear kk
    have kk := hw.oi RF_r.out (by omega); clear RF_r; have RF_r := Lib.hid kk; clear kk
    have kk := hw.oi RL_r.out (by omega); clear RL_r; have RL_r := Lib.hid kk; clear kk
    have kk := hw.oi RF_x.out (by omega); clear RF_x; have RF_x := Lib.hid kk; clear kk
    have kk := hw.oi RL_x.out (by omega); clear RL_x; have RL_x := Lib.hid kk; clear kk
    have kk := hw.oi RF_g.out (by omega); clear RF_g; have RF_g := Lib.hid kk; clear kk
    have kk := hw.oi RL_g.out (by omega); clear RL_g; have RL_g := Lib.hid kk; clear kk
    have kk := bthen C.out hb; clear C; have C := Lib.hid kk; clear kk
    clear hw
    clear hb
    clear eg0 eg1 eg2 er0 er1 er2 hhg hhr
    have ni : (ri != ri) = false := by simp
    have nb : (rb != rb) = false := by simp
    have eg0 := has_cell K_g.out 0 rfl
    have eg1 := has_cell K_g.out 1 rfl
    have eg2 := has_cell K_g.out 2 rfl
    have hhg := has_lt K_g.out
    go_wp2_with fail
    refine (markCol_any w13 (w6.heap.size) (w7.heap.size) rz gA gB gn gm rF rL 1 hlf1 hlb1 (by omega) (by omega) RF_g.out RL_g.out).mono ?_
    rintro e w14 ⟨rfl, hF, hL, hw⟩
    clear RF_g RL_g; have RF_g := Lib.hid hF; have RL_g := Lib.hid hL; clear hF hL
    have hsw14 := hw.size
    have kk := hw.has K_a.out (by omega); clear K_a; have K_a := Lib.hid kk; clear kk
    have kk := hw.has K_r.out (by omega); clear K_r; have K_r := Lib.hid kk; clear kk
    have kk := hw.has K_x.out (by omega); clear K_x; have K_x := Lib.hid kk; clear kk
    have kk := hw.has K_g.out (by omega); clear K_g; have K_g := Lib.hid kk; clear kk
    have kk := hw.oi RF_s.out (by omega); clear RF_s; have RF_s := Lib.hid kk; clear kk
    have kk := hw.oi RL_s.out (by omega); clear RL_s; have RL_s := Lib.hid kk; clear kk
    have kk := hw.oi RF_r.out (by omega); clear RF_r; have RF_r := Lib.hid kk; clear kk
    have kk := hw.oi RL_r.out (by omega); clear RL_r; have RL_r := Lib.hid kk; clear kk
    have kk := hw.oi RF_x.out (by omega); clear RF_x; have RF_x := Lib.hid kk; clear kk
    have kk := hw.oi RL_x.out (by omega); clear RL_x; have RL_x := Lib.hid kk; clear kk
    have kk := C.out.trans (hw.below (B := w.heap.size) (by omega) (by omega)); clear C; have C := Lib.hid kk; clear kk
    clear hw
    clear eg0 eg1 eg2 hhg
    clear ni
    clear nb
    have eg0 := has_cell K_g.out 0 rfl
    have eg1 := has_cell K_g.out 1 rfl
    have eg2 := has_cell K_g.out 2 rfl
    have hhg := has_lt K_g.out
    go_wp2_with fail
    refine (heldCol_any w14 w14.heap.size rz gA gB gn gm rF.length rL.length 1 hlf1 hlb1 (by omega) (by omega) (Nat.le_refl _) RF_g.out.il RL_g.out.xl).mono ?_
    rintro e w15 ⟨rfl, hb⟩
    have hsw15 := hb.size
    have hw : Within 0 0 w14 w15 := Within.of_below hb
    have kk := hw.has K_a.out (by omega); clear K_a; have K_a := Lib.hid kk; clear kk
    have kk := hw.has K_r.out (by omega); clear K_r; have K_r := Lib.hid kk; clear kk
    have kk := hw.has K_x.out (by omega); clear K_x; have K_x := Lib.hid kk; clear kk
    have kk := hw.has K_g.out (by omega); clear K_g; have K_g := Lib.hid kk; clear kk
    have kk := hw.oi RF_s.out (by omega); clear RF_s; have RF_s := Lib.hid kk; clear kk
    have kk := hw.oi RL_s.out (by omega); clear RL_s; have RL_s := Lib.hid kk; clear kk
    have kk := hw.oi RF_r.out (by omega); clear RF_r; have RF_r := Lib.hid kk; clear kk
    have kk := hw.oi RL_r.out (by omega); clear RL_r; have RL_r := Lib.hid kk; clear kk
    have kk := hw.oi RF_x.out (by omega); clear RF_x; have RF_x := Lib.hid kk; clear kk
    have kk := hw.oi RL_x.out (by omega); clear RL_x; have RL_x := Lib.hid kk; clear kk
    have kk := hw.oi RF_g.out (by omega); clear RF_g; have RF_g := Lib.hid kk; clear kk
    have kk := hw.oi RL_g.out (by omega); clear RL_g; have RL_g := Lib.hid kk; clear kk
    have kk := bthen C.out hb; clear C; have C := Lib.hid kk; clear kk
    clear hw
    clear hb
    clear eg0 eg1 eg2 hhg
    have nq : ((1 + (rF.length : Int) + 4 * (rL.length : Int)) != (1 + (rF.length : Int) + 4 * (rL.length : Int))) = false := by simp
    have ea0 := has_cell K_a.out 0 rfl
    have ea1 := has_cell K_a.out 1 rfl
    have ea2 := has_cell K_a.out 2 rfl
    have hha := has_lt K_a.out
    go_wp2_with fail
    refine (toColumn_any w15 w.heap.size AF AB cF cB z F L lf1 lb1 (by omega) (HS.out.below C.out) (HT.out.below C.out)).mono ?_
    rintro e w16 ⟨dA, dB, dn, dm, rfl, hP, hQ, hb⟩
    have RF_d := Lib.hid (OI.of_or hP); have RL_d := Lib.hid (OI.of_or hQ); clear hP hQ
    have hsw16 := hb.size
    have hw : Within 0 0 w15 w16 := Within.of_below hb
    have kk := hw.has K_a.out (by omega); clear K_a; have K_a := Lib.hid kk; clear kk
    have kk := hw.has K_r.out (by omega); clear K_r; have K_r := Lib.hid kk; clear kk
    have kk := hw.has K_x.out (by omega); clear K_x; have K_x := Lib.hid kk; clear kk
    have kk := hw.has K_g.out (by omega); clear K_g; have K_g := Lib.hid kk; clear kk
    have kk := hw.oi RF_s.out (by omega); clear RF_s; have RF_s := Lib.hid kk; clear kk
    have kk := hw.oi RL_s.out (by omega); clear RL_s; have RL_s := Lib.hid kk; clear kk
    have kk := hw.oi RF_r.out (by omega); clear RF_r; have RF_r := Lib.hid kk; clear kk
    have kk := hw.oi RL_r.out (by omega); clear RL_r; have RL_r := Lib.hid kk; clear kk
    have kk := hw.oi RF_x.out (by omega); clear RF_x; have RF_x := Lib.hid kk; clear kk
    have kk := hw.oi RL_x.out (by omega); clear RL_x; have RL_x := Lib.hid kk; clear kk
    have kk := hw.oi RF_g.out (by omega); clear RF_g; have RF_g := Lib.hid kk; clear kk
    have kk := hw.oi RL_g.out (by omega); clear RL_g; have RL_g := Lib.hid kk; clear kk
    have kk := bthen C.out hb; clear C; have C := Lib.hid kk; clear kk
    clear hw
    clear hb
    clear ea0 ea1 ea2 hha
    clear nq
    go_wp2_with fail
    refine (putI_any w16 w16.heap.size ⟨z, dA, F, dn, dB, L, dm⟩ p size lf1 lb1 (Nat.le_refl _) (show CV w16 w16.heap.size ⟨z, dA, F, dn, dB, L, dm⟩ from ⟨RF_d.out.il, RL_d.out.xl, lf, lb⟩)).mono ?_
    rintro e w17 ⟨vz, vF, vL, vi, vb, vA, vB, vn, vm, rfl, hres, hlf, hlb, hP, hQ, hb⟩
    have HR2 := Lib.hid hres; clear hres
    obtain ⟨rfl, rfl, rfl, rfl, rfl⟩ : rz = vz ∧ rF = vF ∧ rL = vL ∧ ri = vi ∧ rb = vb := put_det HRES.out HR2.out
    clear HR2
    have RF_v := Lib.hid (OI.of_or hP); have RL_v := Lib.hid (OI.of_or hQ); clear hP hQ
    have hsw17 := hb.size
    have hw : Within 0 0 w16 w17 := Within.of_below hb
    have kk := hw.has K_a.out (by omega); clear K_a; have K_a := Lib.hid kk; clear kk
    have kk := hw.has K_r.out (by omega); clear K_r; have K_r := Lib.hid kk; clear kk
    have kk := hw.has K_x.out (by omega); clear K_x; have K_x := Lib.hid kk; clear kk
    have kk := hw.has K_g.out (by omega); clear K_g; have K_g := Lib.hid kk; clear kk
    have kk := hw.oi RF_s.out (by omega); clear RF_s; have RF_s := Lib.hid kk; clear kk
    have kk := hw.oi RL_s.out (by omega); clear RL_s; have RL_s := Lib.hid kk; clear kk
    have kk := hw.oi RF_r.out (by omega); clear RF_r; have RF_r := Lib.hid kk; clear kk
    have kk := hw.oi RL_r.out (by omega); clear RL_r; have RL_r := Lib.hid kk; clear kk
    have kk := hw.oi RF_x.out (by omega); clear RF_x; have RF_x := Lib.hid kk; clear kk
    have kk := hw.oi RL_x.out (by omega); clear RL_x; have RL_x := Lib.hid kk; clear kk
    have kk := hw.oi RF_g.out (by omega); clear RF_g; have RF_g := Lib.hid kk; clear kk
    have kk := hw.oi RL_g.out (by omega); clear RL_g; have RL_g := Lib.hid kk; clear kk
    have kk := hw.oi RF_d.out (by omega); clear RF_d; have RF_d := Lib.hid kk; clear kk
    have kk := hw.oi RL_d.out (by omega); clear RL_d; have RL_d := Lib.hid kk; clear kk
    have kk := bthen C.out hb; clear C; have C := Lib.hid kk; clear kk
    clear hw
    clear hb
    have er0 := has_cell K_r.out 0 rfl
    have er1 := has_cell K_r.out 1 rfl
    have er2 := has_cell K_r.out 2 rfl
    have hhr := has_lt K_r.out
    go_wp2_with fail
    clear er0 er1 er2 hhr
    generalize hX : (w17.alloc (.cells #[.int .i64 rz, .slice vA rF.length vn, .slice vB rL.length vm] 31)) = w18
    have hb : Below w17.heap.size w17 w18 := by rw [← hX]; exact balloc _ _
    have K_v := Lib.hid (show Has w18 w17.heap.size 31 #[.int .i64 rz, .slice vA rF.length vn, .slice vB rL.length vm] by rw [← hX]; exact has_new _ _ _)
    clear hX
    have hlv := has_lt K_v.out
    have hsw18 := hb.size
    have hw : Within 0 0 w17 w18 := Within.of_below hb
    have kk := hw.has K_a.out (by omega); clear K_a; have K_a := Lib.hid kk; clear kk
    have kk := hw.has K_r.out (by omega); clear K_r; have K_r := Lib.hid kk; clear kk
    have kk := hw.has K_x.out (by omega); clear K_x; have K_x := Lib.hid kk; clear kk
    have kk := hw.has K_g.out (by omega); clear K_g; have K_g := Lib.hid kk; clear kk
    have kk := hw.oi RF_s.out (by omega); clear RF_s; have RF_s := Lib.hid kk; clear kk
    have kk := hw.oi RL_s.out (by omega); clear RL_s; have RL_s := Lib.hid kk; clear kk
    have kk := hw.oi RF_r.out (by omega); clear RF_r; have RF_r := Lib.hid kk; clear kk
    have kk := hw.oi RL_r.out (by omega); clear RL_r; have RL_r := Lib.hid kk; clear kk
    have kk := hw.oi RF_x.out (by omega); clear RF_x; have RF_x := Lib.hid kk; clear kk
    have kk := hw.oi RL_x.out (by omega); clear RL_x; have RL_x := Lib.hid kk; clear kk
    have kk := hw.oi RF_g.out (by omega); clear RF_g; have RF_g := Lib.hid kk; clear kk
    have kk := hw.oi RL_g.out (by omega); clear RL_g; have RL_g := Lib.hid kk; clear kk
    have kk := hw.oi RF_d.out (by omega); clear RF_d; have RF_d := Lib.hid kk; clear kk
    have kk := hw.oi RL_d.out (by omega); clear RL_d; have RL_d := Lib.hid kk; clear kk
    have kk := hw.oi RF_v.out (by omega); clear RF_v; have RF_v := Lib.hid kk; clear kk
    have kk := hw.oi RL_v.out (by omega); clear RL_v; have RL_v := Lib.hid kk; clear kk
    have kk := bthen C.out hb; clear C; have C := Lib.hid kk; clear kk
    clear hw
    clear hb
    go_wp2_with fail
    refine (eqColumn_any w18 w18.heap.size w18.heap.size vA vB rA rB vn vm rn rm rz rF rL HLF HLB (Nat.le_refl _) (Nat.le_refl _) RF_v.out.il RL_v.out.xl RF_r.out.il RL_r.out.xl).mono ?_
    rintro e w19 ⟨rfl, hb⟩
    have hsw19 := hb.size
    have hw : Within 0 0 w18 w19 := Within.of_below hb
    have kk := hw.has K_a.out (by omega); clear K_a; have K_a := Lib.hid kk; clear kk
    have kk := hw.has K_r.out (by omega); clear K_r; have K_r := Lib.hid kk; clear kk
    have kk := hw.has K_x.out (by omega); clear K_x; have K_x := Lib.hid kk; clear kk
    have kk := hw.has K_g.out (by omega); clear K_g; have K_g := Lib.hid kk; clear kk
    have kk := hw.has K_v.out (by omega); clear K_v; have K_v := Lib.hid kk; clear kk
    have kk := hw.oi RF_s.out (by omega); clear RF_s; have RF_s := Lib.hid kk; clear kk
    have kk := hw.oi RL_s.out (by omega); clear RL_s; have RL_s := Lib.hid kk; clear kk
    have kk := hw.oi RF_r.out (by omega); clear RF_r; have RF_r := Lib.hid kk; clear kk
    have kk := hw.oi RL_r.out (by omega); clear RL_r; have RL_r := Lib.hid kk; clear kk
    have kk := hw.oi RF_x.out (by omega); clear RF_x; have RF_x := Lib.hid kk; clear kk
    have kk := hw.oi RL_x.out (by omega); clear RL_x; have RL_x := Lib.hid kk; clear kk
    have kk := hw.oi RF_g.out (by omega); clear RF_g; have RF_g := Lib.hid kk; clear kk
    have kk := hw.oi RL_g.out (by omega); clear RL_g; have RL_g := Lib.hid kk; clear kk
    have kk := hw.oi RF_d.out (by omega); clear RF_d; have RF_d := Lib.hid kk; clear kk
    have kk := hw.oi RL_d.out (by omega); clear RL_d; have RL_d := Lib.hid kk; clear kk
    have kk := hw.oi RF_v.out (by omega); clear RF_v; have RF_v := Lib.hid kk; clear kk
    have kk := hw.oi RL_v.out (by omega); clear RL_v; have RL_v := Lib.hid kk; clear kk
    have kk := bthen C.out hb; clear C; have C := Lib.hid kk; clear kk
    clear hw
    clear hb
    have ni : (ri != ri) = false := by simp
    have nb : (rb != rb) = false := by simp
    have eg0 := has_cell K_g.out 0 rfl
    have eg1 := has_cell K_g.out 1 rfl
    have eg2 := has_cell K_g.out 2 rfl
    have hhg := has_lt K_g.out
    go_wp2_with fail
    refine (heldCol_any w19 w19.heap.size rz gA gB gn gm rF.length rL.length 1 hlf1 hlb1 (by omega) (by omega) (Nat.le_refl _) RF_g.out.il RL_g.out.xl).mono ?_
    rintro e w20 ⟨rfl, hb⟩
    have hsw20 := hb.size
    have hw : Within 0 0 w19 w20 := Within.of_below hb
    have kk := hw.has K_a.out (by omega); clear K_a; have K_a := Lib.hid kk; clear kk
    have kk := hw.has K_r.out (by omega); clear K_r; have K_r := Lib.hid kk; clear kk
    have kk := hw.has K_x.out (by omega); clear K_x; have K_x := Lib.hid kk; clear kk
    have kk := hw.has K_g.out (by omega); clear K_g; have K_g := Lib.hid kk; clear kk
    have kk := hw.has K_v.out (by omega); clear K_v; have K_v := Lib.hid kk; clear kk
    have kk := hw.oi RF_s.out (by omega); clear RF_s; have RF_s := Lib.hid kk; clear kk
    have kk := hw.oi RL_s.out (by omega); clear RL_s; have RL_s := Lib.hid kk; clear kk
    have kk := hw.oi RF_r.out (by omega); clear RF_r; have RF_r := Lib.hid kk; clear kk
    have kk := hw.oi RL_r.out (by omega); clear RL_r; have RL_r := Lib.hid kk; clear kk
    have kk := hw.oi RF_x.out (by omega); clear RF_x; have RF_x := Lib.hid kk; clear kk
    have kk := hw.oi RL_x.out (by omega); clear RL_x; have RL_x := Lib.hid kk; clear kk
    have kk := hw.oi RF_g.out (by omega); clear RF_g; have RF_g := Lib.hid kk; clear kk
    have kk := hw.oi RL_g.out (by omega); clear RL_g; have RL_g := Lib.hid kk; clear kk
    have kk := hw.oi RF_d.out (by omega); clear RF_d; have RF_d := Lib.hid kk; clear kk
    have kk := hw.oi RL_d.out (by omega); clear RL_d; have RL_d := Lib.hid kk; clear kk
    have kk := hw.oi RF_v.out (by omega); clear RF_v; have RF_v := Lib.hid kk; clear kk
    have kk := hw.oi RL_v.out (by omega); clear RL_v; have RL_v := Lib.hid kk; clear kk
    have kk := bthen C.out hb; clear C; have C := Lib.hid kk; clear kk
    clear hw
    clear hb
    clear eg0 eg1 eg2 hhg
    clear ni
    clear nb
    have nq : ((1 + (rF.length : Int) + 4 * (rL.length : Int)) != (1 + (rF.length : Int) + 4 * (rL.length : Int))) = false := by simp
    go_wp2_with fail
    go_ret
    exact ⟨rfl, C.out⟩
end Go.Proofs.Ytodomhmadfnogaa
