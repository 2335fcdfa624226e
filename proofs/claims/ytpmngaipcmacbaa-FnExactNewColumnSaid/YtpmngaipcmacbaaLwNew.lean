/- Chapter 2: the walk of the law FnExactNewColumn, over the contracts of what it calls. -/
import Derived.Test.YtpmngaipcmacbaaColN
import Derived.Test.YtpmngaipcmacbaaColR
import Derived.Deep.RegionHeld3
import Derived.Deep.DeepMust
namespace Go.Proofs.Ytpmngaipcmacbaa
open Go.RowKit
set_option linter.unusedVariables false

set_option maxRecDepth 100000 in
set_option maxHeartbeats 4000000 in
theorem newLaw_walk (h : Int) (AF : Option Addr) (cF : Nat) (F : List Int) (w : World) (lf : F.length ≤ maxLen) (hS : IL w w.heap.size AF F) :
    Calls Try.prog 4 #[.int .i64 h, .slice AF F.length cF] w fun e w' => e = .returned (.bool true) ∧ Below w.heap.size w w' := by
  have HS := Lib.hid hS; clear hS
  by_cases hbig : (1048576 : Int) < F.length
  · unfold maxLen at lf
    go_enter Try.func4, Try.ntmps4
    go_wp2_with fail
    go_ret
    exact ⟨rfl, Below.refl _ _⟩
  · have lf1 : F.length ≤ 1048576 := by omega
    have hnb : (F.length : Int) ≤ 1048576 := by omega
    go_enter Try.func4, Try.ntmps4
    have C := Lib.hid (Below.refl w.heap.size w)
    have hsw0 : w.heap.size ≤ w.heap.size := Nat.le_refl _
    go_wp2_with fail
    refine (toIntS_any w w.heap.size AF cF F lf1 (by omega) (HS.out.below C.out)).mono ?_
    rintro e w2 ⟨sA, sn, rfl, hP, hb⟩
    have RI_s := Lib.hid (OI.of_or hP); clear hP
    have hsw2 := hb.size
    have hw : Within 0 0 w w2 := Within.of_below hb
    have kk := bthen C.out hb; clear C; have C := Lib.hid kk; clear kk
    clear hw
    clear hb
    go_wp2_with fail
    refine (newS_any w2 w2.heap.size sA sn h F lf1 (Nat.le_refl _) RI_s.out.il).mono ?_
    rintro e w3 ⟨rz, rF, rL, rb, rA, rB, rn, rm, rfl, hres, hlf, hlb, hP, hQ, hb⟩
    have HRES := Lib.hid hres; clear hres
    have RF_r := Lib.hid (OI.of_or hP); have RL_r := Lib.hid (OI.of_or hQ); clear hP hQ
    have hsw3 := hb.size
    have hw : Within 0 0 w2 w3 := Within.of_below hb
    have kk := hw.oi RI_s.out (by omega); clear RI_s; have RI_s := Lib.hid kk; clear kk
    have kk := bthen C.out hb; clear C; have C := Lib.hid kk; clear kk
    clear hw
    clear hb
    have HLF : rF.length ≤ maxLen := by unfold maxLen; omega
    have HLB : rL.length ≤ maxLen := by unfold maxLen; omega
    have hlf1 : rF.length ≤ 1048576 := hlf
    have hlb1 : rL.length ≤ 1048576 := hlb
    clear hlf hlb
    go_wp2_with fail
    generalize hX : (w3.alloc (.cells #[.int .i64 rz, .slice rA rF.length rn, .slice rB rL.length rm] 30)) = w4
    have hb : Below w3.heap.size w3 w4 := by rw [← hX]; exact balloc _ _
    have K_r := Lib.hid (show Has w4 w3.heap.size 30 #[.int .i64 rz, .slice rA rF.length rn, .slice rB rL.length rm] by rw [← hX]; exact has_new _ _ _)
    clear hX
    have hlr := has_lt K_r.out
    have hsw4 := hb.size
    have hw : Within 0 0 w3 w4 := Within.of_below hb
    have kk := hw.oi RI_s.out (by omega); clear RI_s; have RI_s := Lib.hid kk; clear kk
    have kk := hw.oi RF_r.out (by omega); clear RF_r; have RF_r := Lib.hid kk; clear kk
    have kk := hw.oi RL_r.out (by omega); clear RL_r; have RL_r := Lib.hid kk; clear kk
    have kk := bthen C.out hb; clear C; have C := Lib.hid kk; clear kk
    clear hw
    clear hb
    go_wp2_with fail
    refine (toIntS_any w4 w.heap.size AF cF F lf1 (by omega) (HS.out.below C.out)).mono ?_
    rintro e w5 ⟨xA, xn, rfl, hP, hb⟩
    have RI_x := Lib.hid (OI.of_or hP); clear hP
    have hsw5 := hb.size
    have hw : Within 0 0 w4 w5 := Within.of_below hb
    have kk := hw.oi RI_s.out (by omega); clear RI_s; have RI_s := Lib.hid kk; clear kk
    have kk := hw.has K_r.out (by omega); clear K_r; have K_r := Lib.hid kk; clear kk
    have kk := hw.oi RF_r.out (by omega); clear RF_r; have RF_r := Lib.hid kk; clear kk
    have kk := hw.oi RL_r.out (by omega); clear RL_r; have RL_r := Lib.hid kk; clear kk
    have kk := bthen C.out hb; clear C; have C := Lib.hid kk; clear kk
    clear hw
    clear hb
    go_wp2_with fail
    refine (newI_any w5 w5.heap.size xA xn h F lf1 (Nat.le_refl _) RI_x.out.il).mono ?_
    rintro e w7 ⟨gz, gF, gL, gb, gA, gB, gn, gm, rfl, hres, hlf, hlb, hP, hQ, hb⟩
    have HR2 := Lib.hid hres; clear hres
    obtain ⟨rfl, rfl, rfl, rfl⟩ : rz = gz ∧ rF = gF ∧ rL = gL ∧ rb = gb := new_det HRES.out HR2.out
    clear HR2
    have RF_g := Lib.hid (OI.of_or hP); have RL_g := Lib.hid (OI.of_or hQ); clear hP hQ
    have hsw7 := hb.size
    have hw : Within 0 0 w5 w7 := Within.of_below hb
    have kk := hw.oi RI_s.out (by omega); clear RI_s; have RI_s := Lib.hid kk; clear kk
    have kk := hw.oi RI_x.out (by omega); clear RI_x; have RI_x := Lib.hid kk; clear kk
    have kk := hw.has K_r.out (by omega); clear K_r; have K_r := Lib.hid kk; clear kk
    have kk := hw.oi RF_r.out (by omega); clear RF_r; have RF_r := Lib.hid kk; clear kk
    have kk := hw.oi RL_r.out (by omega); clear RL_r; have RL_r := Lib.hid kk; clear kk
    have kk := bthen C.out hb; clear C; have C := Lib.hid kk; clear kk
    clear hw
    clear hb
    have er0 := has_cell K_r.out 0 rfl
    have er1 := has_cell K_r.out 1 rfl
    have er2 := has_cell K_r.out 2 rfl
    have hhr := has_lt K_r.out
    go_wp2_with fail
    clear er0 er1 er2 hhr
    generalize hX : (w7.alloc (.cells #[.int .i64 rz, .slice gA rF.length gn, .slice gB rL.length gm] 30)) = w8
    have hb : Below w7.heap.size w7 w8 := by rw [← hX]; exact balloc _ _
    have K_g := Lib.hid (show Has w8 w7.heap.size 30 #[.int .i64 rz, .slice gA rF.length gn, .slice gB rL.length gm] by rw [← hX]; exact has_new _ _ _)
    clear hX
    have hlg := has_lt K_g.out
    have hsw8 := hb.size
    have hw : Within 0 0 w7 w8 := Within.of_below hb
    have kk := hw.oi RI_s.out (by omega); clear RI_s; have RI_s := Lib.hid kk; clear kk
    have kk := hw.oi RI_x.out (by omega); clear RI_x; have RI_x := Lib.hid kk; clear kk
    have kk := hw.has K_r.out (by omega); clear K_r; have K_r := Lib.hid kk; clear kk
    have kk := hw.oi RF_r.out (by omega); clear RF_r; have RF_r := Lib.hid kk; clear kk
    have kk := hw.oi RL_r.out (by omega); clear RL_r; have RL_r := Lib.hid kk; clear kk
    have kk := hw.oi RF_g.out (by omega); clear RF_g; have RF_g := Lib.hid kk; clear kk
    have kk := hw.oi RL_g.out (by omega); clear RL_g; have RL_g := Lib.hid kk; clear kk
    have kk := bthen C.out hb; clear C; have C := Lib.hid kk; clear kk
    clear hw
    clear hb
    go_wp2_with fail
    refine (eqColumn_any w8 w8.heap.size w8.heap.size gA gB rA rB gn gm rn rm rz rF rL HLF HLB (Nat.le_refl _) (Nat.le_refl _) RF_g.out.il RL_g.out.xl RF_r.out.il RL_r.out.xl).mono ?_
    rintro e w9 ⟨rfl, hb⟩
    have hsw9 := hb.size
    have hw : Within 0 0 w8 w9 := Within.of_below hb
    have kk := hw.oi RI_s.out (by omega); clear RI_s; have RI_s := Lib.hid kk; clear kk
    have kk := hw.oi RI_x.out (by omega); clear RI_x; have RI_x := Lib.hid kk; clear kk
    have kk := hw.has K_r.out (by omega); clear K_r; have K_r := Lib.hid kk; clear kk
    have kk := hw.has K_g.out (by omega); clear K_g; have K_g := Lib.hid kk; clear kk
    have kk := hw.oi RF_r.out (by omega); clear RF_r; have RF_r := Lib.hid kk; clear kk
    have kk := hw.oi RL_r.out (by omega); clear RL_r; have RL_r := Lib.hid kk; clear kk
    have kk := hw.oi RF_g.out (by omega); clear RF_g; have RF_g := Lib.hid kk; clear kk
    have kk := hw.oi RL_g.out (by omega); clear RL_g; have RL_g := Lib.hid kk; clear kk
    have kk := bthen C.out hb; clear C; have C := Lib.hid kk; clear kk
    clear hw
    clear hb
    have nb : (rb != rb) = false := by simp
    go_wp2_with fail
    refine (toIntS_any w9 w.heap.size AF cF F lf1 (by omega) (HS.out.below C.out)).mono ?_
    rintro e w10 ⟨yA, yn, rfl, hP, hb⟩
    have RI_y := Lib.hid (OI.of_or hP); clear hP
    have hsw10 := hb.size
    have hw : Within 0 0 w9 w10 := Within.of_below hb
    have kk := hw.oi RI_s.out (by omega); clear RI_s; have RI_s := Lib.hid kk; clear kk
    have kk := hw.oi RI_x.out (by omega); clear RI_x; have RI_x := Lib.hid kk; clear kk
    have kk := hw.has K_r.out (by omega); clear K_r; have K_r := Lib.hid kk; clear kk
    have kk := hw.has K_g.out (by omega); clear K_g; have K_g := Lib.hid kk; clear kk
    have kk := hw.oi RF_r.out (by omega); clear RF_r; have RF_r := Lib.hid kk; clear kk
    have kk := hw.oi RL_r.out (by omega); clear RL_r; have RL_r := Lib.hid kk; clear kk
    have kk := hw.oi RF_g.out (by omega); clear RF_g; have RF_g := Lib.hid kk; clear kk
    have kk := hw.oi RL_g.out (by omega); clear RL_g; have RL_g := Lib.hid kk; clear kk
    have kk := bthen C.out hb; clear C; have C := Lib.hid kk; clear kk
    clear hw
    clear hb
    clear nb
    go_wp2_with fail
    refine (eqIntS_any w10 w10.heap.size w10.heap.size xA yA xn yn F lf (Nat.le_refl _) (Nat.le_refl _) RI_x.out.il RI_y.out.il).mono ?_
    rintro e w11 ⟨rfl, hb⟩
    have hsw11 := hb.size
    have hw : Within 0 0 w10 w11 := Within.of_below hb
    have kk := hw.oi RI_s.out (by omega); clear RI_s; have RI_s := Lib.hid kk; clear kk
    have kk := hw.oi RI_x.out (by omega); clear RI_x; have RI_x := Lib.hid kk; clear kk
    have kk := hw.oi RI_y.out (by omega); clear RI_y; have RI_y := Lib.hid kk; clear kk
    have kk := hw.has K_r.out (by omega); clear K_r; have K_r := Lib.hid kk; clear kk
    have kk := hw.has K_g.out (by omega); clear K_g; have K_g := Lib.hid kk; clear kk
    have kk := hw.oi RF_r.out (by omega); clear RF_r; have RF_r := Lib.hid kk; clear kk
    have kk := hw.oi RL_r.out (by omega); clear RL_r; have RL_r := Lib.hid kk; clear kk
    have kk := hw.oi RF_g.out (by omega); clear RF_g; have RF_g := Lib.hid kk; clear kk
    have kk := hw.oi RL_g.out (by omega); clear RL_g; have RL_g := Lib.hid kk; clear kk
    have kk := bthen C.out hb; clear C; have C := Lib.hid kk; clear kk
    clear hw
    clear hb
    go_wp2_with fail
    refine (markInt_any w11 (w4.heap.size) xA xn F 1 lf1 (by omega) (by omega) RI_x.out.or_).mono ?_
    rintro e w12 ⟨rfl, hF, hmk⟩
    have hw := within_marks RI_x.out hmk
    have kk := oi_marked RI_x.out hF intV_seq; clear RI_x; have RI_x := Lib.hid kk; clear kk hF hmk
    have hsw12 := hw.size
    have kk := hw.oi RI_s.out (by omega); clear RI_s; have RI_s := Lib.hid kk; clear kk
    have kk := hw.oi RI_y.out (by omega); clear RI_y; have RI_y := Lib.hid kk; clear kk
    have kk := hw.has K_r.out (by omega); clear K_r; have K_r := Lib.hid kk; clear kk
    have kk := hw.has K_g.out (by omega); clear K_g; have K_g := Lib.hid kk; clear kk
    have kk := hw.oi RF_r.out (by omega); clear RF_r; have RF_r := Lib.hid kk; clear kk
    have kk := hw.oi RL_r.out (by omega); clear RL_r; have RL_r := Lib.hid kk; clear kk
    have kk := hw.oi RF_g.out (by omega); clear RF_g; have RF_g := Lib.hid kk; clear kk
    have kk := hw.oi RL_g.out (by omega); clear RL_g; have RL_g := Lib.hid kk; clear kk
    have kk := C.out.trans (hw.below (B := w.heap.size) (by omega) (by omega)); clear C; have C := Lib.hid kk; clear kk
    clear hw
    have eg0 := has_cell K_g.out 0 rfl
    have eg1 := has_cell K_g.out 1 rfl
    have eg2 := has_cell K_g.out 2 rfl
    have hhg := has_lt K_g.out
    have er0 := has_cell K_r.out 0 rfl
    have er1 := has_cell K_r.out 1 rfl
    have er2 := has_cell K_r.out 2 rfl
    have hhr := has_lt K_r.out
    go_wp2_with fail
    refine (eqColumn_any w12 w12.heap.size w12.heap.size gA gB rA rB gn gm rn rm rz rF rL HLF HLB (Nat.le_refl _) (Nat.le_refl _) RF_g.out.il RL_g.out.xl RF_r.out.il RL_r.out.xl).mono ?_
    rintro e w13 ⟨rfl, hb⟩
    have hsw13 := hb.size
    have hw : Within 0 0 w12 w13 := Within.of_below hb
    have kk := hw.oi RI_s.out (by omega); clear RI_s; have RI_s := Lib.hid kk; clear kk
    have kk := hw.oi RI_x.out (by omega); clear RI_x; have RI_x := Lib.hid kk; clear kk
    have kk := hw.oi RI_y.out (by omega); clear RI_y; have RI_y := Lib.hid kk; clear kk
    have kk := hw.has K_r.out (by omega); clear K_r; have K_r := Lib.hid kk; clear kk
    have kk := hw.has K_g.out (by omega); clear K_g; have K_g := Lib.hid kk; clear kk
    have kk := hw.oi RF_r.out (by omega); clear RF_r; have RF_r := Lib.hid kk; clear kk
    have kk := hw.oi RL_r.out (by omega); clear RL_r; have RL_r := Lib.hid kk; clear kk
    have kk := hw.oi RF_g.out (by omega); clear RF_g; have RF_g := Lib.hid kk; clear kk
    have kk := hw.oi RL_g.out (by omega); clear RL_g; have RL_g := Lib.hid kk; clear kk
    have kk := bthen C.out hb; clear C; have C := Lib.hid kk; clear kk
    clear hw
    clear hb
    clear eg0 eg1 eg2 er0 er1 er2 hhg hhr
    have nb : (rb != rb) = false := by simp
    have eg0 := has_cell K_g.out 0 rfl
    have eg1 := has_cell K_g.out 1 rfl
    have eg2 := has_cell K_g.out 2 rfl
    have hhg := has_lt K_g.out
    go_wp2_with fail
    refine (markCol_any w13 (w5.heap.size) (w7.heap.size) rz gA gB gn gm rF rL 1 hlf1 hlb1 (by omega) (by omega) RF_g.out RL_g.out).mono ?_
    rintro e w14 ⟨rfl, hF, hL, hw⟩
    clear RF_g RL_g; have RF_g := Lib.hid hF; have RL_g := Lib.hid hL; clear hF hL
    have hsw14 := hw.size
    have kk := hw.oi RI_s.out (by omega); clear RI_s; have RI_s := Lib.hid kk; clear kk
    have kk := hw.oi RI_x.out (by omega); clear RI_x; have RI_x := Lib.hid kk; clear kk
    have kk := hw.oi RI_y.out (by omega); clear RI_y; have RI_y := Lib.hid kk; clear kk
    have kk := hw.has K_r.out (by omega); clear K_r; have K_r := Lib.hid kk; clear kk
    have kk := hw.has K_g.out (by omega); clear K_g; have K_g := Lib.hid kk; clear kk
    have kk := hw.oi RF_r.out (by omega); clear RF_r; have RF_r := Lib.hid kk; clear kk
    have kk := hw.oi RL_r.out (by omega); clear RL_r; have RL_r := Lib.hid kk; clear kk
    have kk := C.out.trans (hw.below (B := w.heap.size) (by omega) (by omega)); clear C; have C := Lib.hid kk; clear kk
    clear hw
    clear eg0 eg1 eg2 hhg
    clear nb
    have eg0 := has_cell K_g.out 0 rfl
    have eg1 := has_cell K_g.out 1 rfl
    have eg2 := has_cell K_g.out 2 rfl
    have hhg := has_lt K_g.out
    go_wp2_with fail
    refine (heldCol_any w14 w14.heap.size rz gA gB gn gm rF.length rL.length 1 hlf1 hlb1 (by omega) (by omega) (Nat.le_refl _) RF_g.out.il RL_g.out.xl).mono ?_
    rintro e w15 ⟨rfl, hb⟩
    have hsw15 := hb.size
    have hw : Within 0 0 w14 w15 := Within.of_below hb
    have kk := hw.oi RI_s.out (by omega); clear RI_s; have RI_s := Lib.hid kk; clear kk
    have kk := hw.oi RI_x.out (by omega); clear RI_x; have RI_x := Lib.hid kk; clear kk
    have kk := hw.oi RI_y.out (by omega); clear RI_y; have RI_y := Lib.hid kk; clear kk
    have kk := hw.has K_r.out (by omega); clear K_r; have K_r := Lib.hid kk; clear kk
    have kk := hw.has K_g.out (by omega); clear K_g; have K_g := Lib.hid kk; clear kk
    have kk := hw.oi RF_r.out (by omega); clear RF_r; have RF_r := Lib.hid kk; clear kk
    have kk := hw.oi RL_r.out (by omega); clear RL_r; have RL_r := Lib.hid kk; clear kk
    have kk := hw.oi RF_g.out (by omega); clear RF_g; have RF_g := Lib.hid kk; clear kk
    have kk := hw.oi RL_g.out (by omega); clear RL_g; have RL_g := Lib.hid kk; clear kk
    have kk := bthen C.out hb; clear C; have C := Lib.hid kk; clear kk
    clear hw
    clear hb
    clear eg0 eg1 eg2 hhg
    have nq : ((1 + (rF.length : Int) + 4 * (rL.length : Int)) != (1 + (rF.length : Int) + 4 * (rL.length : Int))) = false := by simp
    go_wp2_with fail
    refine (toIntS_any w15 w.heap.size AF cF F lf1 (by omega) (HS.out.below C.out)).mono ?_
    rintro e w16 ⟨dA, dn, rfl, hP, hb⟩
    have RI_d := Lib.hid (OI.of_or hP); clear hP
    have hsw16 := hb.size
    have hw : Within 0 0 w15 w16 := Within.of_below hb
    have kk := hw.oi RI_s.out (by omega); clear RI_s; have RI_s := Lib.hid kk; clear kk
    have kk := hw.oi RI_x.out (by omega); clear RI_x; have RI_x := Lib.hid kk; clear kk
    have kk := hw.oi RI_y.out (by omega); clear RI_y; have RI_y := Lib.hid kk; clear kk
    have kk := hw.has K_r.out (by omega); clear K_r; have K_r := Lib.hid kk; clear kk
    have kk := hw.has K_g.out (by omega); clear K_g; have K_g := Lib.hid kk; clear kk
    have kk := hw.oi RF_r.out (by omega); clear RF_r; have RF_r := Lib.hid kk; clear kk
    have kk := hw.oi RL_r.out (by omega); clear RL_r; have RL_r := Lib.hid kk; clear kk
    have kk := hw.oi RF_g.out (by omega); clear RF_g; have RF_g := Lib.hid kk; clear kk
    have kk := hw.oi RL_g.out (by omega); clear RL_g; have RL_g := Lib.hid kk; clear kk
    have kk := bthen C.out hb; clear C; have C := Lib.hid kk; clear kk
    clear hw
    clear hb
    clear nq
    go_wp2_with fail
    refine (newI_any w16 w16.heap.size dA dn h F lf1 (Nat.le_refl _) RI_d.out.il).mono ?_
    rintro e w17 ⟨vz, vF, vL, vb, vA, vB, vn, vm, rfl, hres, hlf, hlb, hP, hQ, hb⟩
    have HR2 := Lib.hid hres; clear hres
    obtain ⟨rfl, rfl, rfl, rfl⟩ : rz = vz ∧ rF = vF ∧ rL = vL ∧ rb = vb := new_det HRES.out HR2.out
    clear HR2
    have RF_v := Lib.hid (OI.of_or hP); have RL_v := Lib.hid (OI.of_or hQ); clear hP hQ
    have hsw17 := hb.size
    have hw : Within 0 0 w16 w17 := Within.of_below hb
    have kk := hw.oi RI_s.out (by omega); clear RI_s; have RI_s := Lib.hid kk; clear kk
    have kk := hw.oi RI_x.out (by omega); clear RI_x; have RI_x := Lib.hid kk; clear kk
    have kk := hw.oi RI_y.out (by omega); clear RI_y; have RI_y := Lib.hid kk; clear kk
    have kk := hw.oi RI_d.out (by omega); clear RI_d; have RI_d := Lib.hid kk; clear kk
    have kk := hw.has K_r.out (by omega); clear K_r; have K_r := Lib.hid kk; clear kk
    have kk := hw.has K_g.out (by omega); clear K_g; have K_g := Lib.hid kk; clear kk
    have kk := hw.oi RF_r.out (by omega); clear RF_r; have RF_r := Lib.hid kk; clear kk
    have kk := hw.oi RL_r.out (by omega); clear RL_r; have RL_r := Lib.hid kk; clear kk
    have kk := hw.oi RF_g.out (by omega); clear RF_g; have RF_g := Lib.hid kk; clear kk
    have kk := hw.oi RL_g.out (by omega); clear RL_g; have RL_g := Lib.hid kk; clear kk
    have kk := bthen C.out hb; clear C; have C := Lib.hid kk; clear kk
    clear hw
    clear hb
    have er0 := has_cell K_r.out 0 rfl
    have er1 := has_cell K_r.out 1 rfl
    have er2 := has_cell K_r.out 2 rfl
    have hhr := has_lt K_r.out
    go_wp2_with fail
    clear er0 er1 er2 hhr
    generalize hX : (w17.alloc (.cells #[.int .i64 rz, .slice vA rF.length vn, .slice vB rL.length vm] 30)) = w18
    have hb : Below w17.heap.size w17 w18 := by rw [← hX]; exact balloc _ _
    have K_v := Lib.hid (show Has w18 w17.heap.size 30 #[.int .i64 rz, .slice vA rF.length vn, .slice vB rL.length vm] by rw [← hX]; exact has_new _ _ _)
    clear hX
    have hlv := has_lt K_v.out
    have hsw18 := hb.size
    have hw : Within 0 0 w17 w18 := Within.of_below hb
    have kk := hw.oi RI_s.out (by omega); clear RI_s; have RI_s := Lib.hid kk; clear kk
    have kk := hw.oi RI_x.out (by omega); clear RI_x; have RI_x := Lib.hid kk; clear kk
    have kk := hw.oi RI_y.out (by omega); clear RI_y; have RI_y := Lib.hid kk; clear kk
    have kk := hw.oi RI_d.out (by omega); clear RI_d; have RI_d := Lib.hid kk; clear kk
    have kk := hw.has K_r.out (by omega); clear K_r; have K_r := Lib.hid kk; clear kk
    have kk := hw.has K_g.out (by omega); clear K_g; have K_g := Lib.hid kk; clear kk
    have kk := hw.oi RF_r.out (by omega); clear RF_r; have RF_r := Lib.hid kk; clear kk
    have kk := hw.oi RL_r.out (by omega); clear RL_r; have RL_r := Lib.hid kk; clear kk
    have kk := hw.oi RF_g.out (by omega); clear RF_g; have RF_g := Lib.hid kk; clear kk
    have kk := hw.oi RL_g.out (by omega); clear RL_g; have RL_g := Lib.hid kk; clear kk
    have kk := hw.oi RF_v.out (by omega); clear RF_v; have RF_v := Lib.hid kk; clear kk
    have kk := hw.oi RL_v.out (by omega); clear RL_v; have RL_v := Lib.hid kk; clear kk
    have kk := bthen C.out hb; clear C; have C := Lib.hid kk; clear kk
    clear hw
    clear hb
    go_wp2_with fail
    refine (eqColumn_any w18 w18.heap.size w18.heap.size vA vB rA rB vn vm rn rm rz rF rL HLF HLB (Nat.le_refl _) (Nat.le_refl _) RF_v.out.il RL_v.out.xl RF_r.out.il RL_r.out.xl).mono ?_
    rintro e w19 ⟨rfl, hb⟩
    have hsw19 := hb.size
    have hw : Within 0 0 w18 w19 := Within.of_below hb
    have kk := hw.oi RI_s.out (by omega); clear RI_s; have RI_s := Lib.hid kk; clear kk
    have kk := hw.oi RI_x.out (by omega); clear RI_x; have RI_x := Lib.hid kk; clear kk
    have kk := hw.oi RI_y.out (by omega); clear RI_y; have RI_y := Lib.hid kk; clear kk
    have kk := hw.oi RI_d.out (by omega); clear RI_d; have RI_d := Lib.hid kk; clear kk
    have kk := hw.has K_r.out (by omega); clear K_r; have K_r := Lib.hid kk; clear kk
    have kk := hw.has K_g.out (by omega); clear K_g; have K_g := Lib.hid kk; clear kk
    have kk := hw.has K_v.out (by omega); clear K_v; have K_v := Lib.hid kk; clear kk
    have kk := hw.oi RF_r.out (by omega); clear RF_r; have RF_r := Lib.hid kk; clear kk
    have kk := hw.oi RL_r.out (by omega); clear RL_r; have RL_r := Lib.hid kk; clear kk
    have kk := hw.oi RF_g.out (by omega); clear RF_g; have RF_g := Lib.hid kk; clear kk
    have kk := hw.oi RL_g.out (by omega); clear RL_g; have RL_g := Lib.hid kk; clear kk
    have kk := hw.oi RF_v.out (by omega); clear RF_v; have RF_v := Lib.hid kk; clear kk
    have kk := hw.oi RL_v.out (by omega); clear RL_v; have RL_v := Lib.hid kk; clear kk
    have kk := bthen C.out hb; clear C; have C := Lib.hid kk; clear kk
    clear hw
    clear hb
    have nb : (rb != rb) = false := by simp
    have eg0 := has_cell K_g.out 0 rfl
    have eg1 := has_cell K_g.out 1 rfl
    have eg2 := has_cell K_g.out 2 rfl
    have hhg := has_lt K_g.out
    go_wp2_with fail
    refine (heldCol_any w19 w19.heap.size rz gA gB gn gm rF.length rL.length 1 hlf1 hlb1 (by omega) (by omega) (Nat.le_refl _) RF_g.out.il RL_g.out.xl).mono ?_
    rintro e w20 ⟨rfl, hb⟩
    have hsw20 := hb.size
    have hw : Within 0 0 w19 w20 := Within.of_below hb
    have kk := hw.oi RI_s.out (by omega); clear RI_s; have RI_s := Lib.hid kk; clear kk
    have kk := hw.oi RI_x.out (by omega); clear RI_x; have RI_x := Lib.hid kk; clear kk
    have kk := hw.oi RI_y.out (by omega); clear RI_y; have RI_y := Lib.hid kk; clear kk
    have kk := hw.oi RI_d.out (by omega); clear RI_d; have RI_d := Lib.hid kk; clear kk
    have kk := hw.has K_r.out (by omega); clear K_r; have K_r := Lib.hid kk; clear kk
    have kk := hw.has K_g.out (by omega); clear K_g; have K_g := Lib.hid kk; clear kk
    have kk := hw.has K_v.out (by omega); clear K_v; have K_v := Lib.hid kk; clear kk
    have kk := hw.oi RF_r.out (by omega); clear RF_r; have RF_r := Lib.hid kk; clear kk
    have kk := hw.oi RL_r.out (by omega); clear RL_r; have RL_r := Lib.hid kk; clear kk
    have kk := hw.oi RF_g.out (by omega); clear RF_g; have RF_g := Lib.hid kk; clear kk
    have kk := hw.oi RL_g.out (by omega); clear RL_g; have RL_g := Lib.hid kk; clear kk
    have kk := hw.oi RF_v.out (by omega); clear RF_v; have RF_v := Lib.hid kk; clear kk
    have kk := hw.oi RL_v.out (by omega); clear RL_v; have RL_v := Lib.hid kk; clear kk
    have kk := bthen C.out hb; clear C; have C := Lib.hid kk; clear kk
    clear hw
    clear hb
    clear eg0 eg1 eg2 hhg
    clear nb
    have nq : ((1 + (rF.length : Int) + 4 * (rL.length : Int)) != (1 + (rF.length : Int) + 4 * (rL.length : Int))) = false := by simp
    go_wp2_with fail
    go_ret
    exact ⟨rfl, C.out⟩
end Go.Proofs.Ytpmngaipcmacbaa
