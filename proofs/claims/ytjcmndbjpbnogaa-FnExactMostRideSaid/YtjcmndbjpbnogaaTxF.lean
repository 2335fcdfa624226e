/- Chapter 7: the walk of the exact law of MostRide (gen_txe.py). -/
import Derived.Test.YtjcmndbjpbnogaaTxD
import Derived.Test.YtjcmndbjpbnogaaTouH
import Derived.Deep.RegionHeld3
import Derived.Deep.DeepMust
import Derived.WalkLawsBesides
namespace Go.Proofs.Ytjcmndbjpbnogaa
open Go.RowKit
set_option linter.unusedVariables false

set_option maxRecDepth 100000 in
set_option maxHeartbeats 8000000 in
theorem mstLaw_walk (b r : Int) (AL AS : Option Addr) (cL cS : Nat) (R : List Rw) (S : List Sp) (w : World) (hR : RdIn w w.heap.size AL R AS S) : Calls Try.prog 4 #[.agg #[.int .i64 b, .int .i64 r, .slice AL R.length cL, .slice AS S.length cS]] w fun e w' => e = .returned (.bool true) ∧ Below w.heap.size w w' := by
  have HR := Lib.hid hR; clear hR
  go_enter Try.func4, Try.ntmps4
  go_wp2_with fail
  generalize hX : (w.alloc (.cells #[.int .i64 b, .int .i64 r, .slice AL R.length cL, .slice AS S.length cS] 25)) = w1
  have hb : Below w.heap.size w w1 := by rw [← hX]; exact balloc _ _
  have hk : Has w1 w.heap.size 25 #[.int .i64 b, .int .i64 r, .slice AL R.length cL, .slice AS S.length cS] := by rw [← hX]; exact has_new _ _ _
  have hzw1 : w1.heap.size = w.heap.size + 1 := by rw [← hX]; simp
  clear hX
  have zb := hb; clear hb
  have za := hk; clear hk
  clear hzw1
  have hlw1 := has_lt za
  refine (szRound_any _ w.heap.size b r AL AS cL cS R S zb.size (HR.out.below zb)).mono ?_
  rintro e w2 ⟨⟨x, rfl, hx⟩, hb⟩
  have hsw2 := hb.size
  replace za := has_call za hb
  replace zb := bthen zb hb; clear hb
  rcases hx with rfl | ⟨hx0, hsm⟩
  · skip
    have zac0 := has_cell za 0 rfl; have zac1 := has_cell za 1 rfl; have zac2 := has_cell za 2 rfl; have zac3 := has_cell za 3 rfl
    have zalt := has_lt za
    have ZAH := Lib.hid za; clear za
    have ZB := Lib.hid zb; clear zb
    go_wp2_with fail
    clear zac0 zac1 zac2 zac3 zalt
    have za := ZAH.out; clear ZAH
    have zb := ZB.out; clear ZB
    go_ret
    exact ⟨rfl, zb⟩
  have HSM := Lib.hid hsm; clear hsm
  obtain ⟨⟨l, en, V⟩, hq⟩ : ∃ V, bestVal b r (gOf R) S 0 = V := ⟨_, rfl⟩
  have hsl7 : S.length ≤ 1048576 := by have h8 := HSM.out; unfold SmallRd at h8; omega
  have HSL := Lib.hid hsl7
  have hl7 : l.length ≤ 1048576 := by have h9 := bestT_len b r (gOf R) S 0; rw [hq] at h9; exact Nat.le_trans h9 hsl7
  have HV := Lib.hid hq; clear hq
  have nv : (V != V) = false := by simp
  have ne : (en != en) = false := by simp
  have hLL : l.length ≤ maxLen := by unfold maxLen; omega
  have zac0 := has_cell za 0 rfl; have zac1 := has_cell za 1 rfl; have zac2 := has_cell za 2 rfl; have zac3 := has_cell za 3 rfl
  have zalt := has_lt za
  have ZAH := Lib.hid za; clear za
  have ZB := Lib.hid zb; clear zb
  go_wp2_with fail
  clear zac0 zac1 zac2 zac3 zalt
  have za := ZAH.out; clear ZAH
  have zb := ZB.out; clear ZB
  refine (toRound_any _ w.heap.size b r AL AS cL cS R S HSM.out zb.size (HR.out.below zb)).mono ?_
  rintro e w3 ⟨mAL, mAS, mcL, mcS, mR, rfl, hg, hrd, hb⟩
  have hsw3 := hb.size
  replace za := has_call za hb
  replace zb := bthen zb hb; clear hb
  have HG_m := Lib.hid hg; have RD_m := Lib.hid hrd; clear hg hrd
  have zac0 := has_cell za 0 rfl; have zac1 := has_cell za 1 rfl; have zac2 := has_cell za 2 rfl; have zac3 := has_cell za 3 rfl
  have zalt := has_lt za
  have ZAH := Lib.hid za; clear za
  have ZB := Lib.hid zb; clear zb
  go_wp2_with fail
  clear zac0 zac1 zac2 zac3 zalt
  have za := ZAH.out; clear ZAH
  have zb := ZB.out; clear ZB
  refine (mostS_any _ w3.heap.size b r mAL mAS mcL mcS mR S (Nat.le_refl _) (RD_m.out.in_ (small_copy HSM.out HG_m.out)) HSL.out).mono ?_
  rintro e w4 hans
  skip
  replace hans := bestE_v hans
  rw [HG_m.out, HV.out] at hans
  obtain ⟨pA, pn, rfl, hP, hb⟩ := hans
  dsimp only at hP ⊢
  have kk := RdCo.call RD_m.out hb; clear RD_m; have RD_m := Lib.hid kk; clear kk
  have hsw4 := hb.size
  replace za := has_call za hb
  replace zb := bthen zb hb; clear hb
  have RI_p := Lib.hid (OI.of_or hP); clear hP
  have zac0 := has_cell za 0 rfl; have zac1 := has_cell za 1 rfl; have zac2 := has_cell za 2 rfl; have zac3 := has_cell za 3 rfl
  have zalt := has_lt za
  have ZAH := Lib.hid za; clear za
  have ZB := Lib.hid zb; clear zb
  go_wp2_with fail
  clear zac0 zac1 zac2 zac3 zalt
  have za := ZAH.out; clear ZAH
  have zb := ZB.out; clear ZB
  refine (toRound_any _ w.heap.size b r AL AS cL cS R S HSM.out zb.size (HR.out.below zb)).mono ?_
  rintro e w5 ⟨xAL, xAS, xcL, xcS, xR, rfl, hg, hrd, hb⟩
  have kk := RdCo.call RD_m.out hb; clear RD_m; have RD_m := Lib.hid kk; clear kk
  have kk := OI.call RI_p.out hb; clear RI_p; have RI_p := Lib.hid kk; clear kk
  have hsw5 := hb.size
  replace za := has_call za hb
  replace zb := bthen zb hb; clear hb
  have HG_x := Lib.hid hg; have RD_x := Lib.hid hrd; clear hg hrd
  have zac0 := has_cell za 0 rfl; have zac1 := has_cell za 1 rfl; have zac2 := has_cell za 2 rfl; have zac3 := has_cell za 3 rfl
  have zalt := has_lt za
  have ZAH := Lib.hid za; clear za
  have ZB := Lib.hid zb; clear zb
  go_wp2_with fail
  clear zac0 zac1 zac2 zac3 zalt
  have za := ZAH.out; clear ZAH
  have zb := ZB.out; clear ZB
  generalize hX : (w5.alloc (.cells #[.int .i64 b, .int .i64 r, .slice xAL xR.length xcL, .slice xAS S.length xcS] 32)) = w6
  have hb : Below w5.heap.size w5 w6 := by rw [← hX]; exact balloc _ _
  have hk : Has w6 w5.heap.size 32 #[.int .i64 b, .int .i64 r, .slice xAL xR.length xcL, .slice xAS S.length xcS] := by rw [← hX]; exact has_new _ _ _
  clear hX
  have kk := RdCo.call RD_m.out hb; clear RD_m; have RD_m := Lib.hid kk; clear kk
  have kk := RdCo.call RD_x.out hb; clear RD_x; have RD_x := Lib.hid kk; clear kk
  have kk := OI.call RI_p.out hb; clear RI_p; have RI_p := Lib.hid kk; clear kk
  have hsw6 := hb.size
  replace za := has_call za hb
  replace zb := bthen zb hb; clear hb
  have zx := hk; clear hk; have hlzx := has_lt zx
  have zac0 := has_cell za 0 rfl; have zac1 := has_cell za 1 rfl; have zac2 := has_cell za 2 rfl; have zac3 := has_cell za 3 rfl
  have zalt := has_lt za
  have zxc0 := has_cell zx 0 rfl; have zxc1 := has_cell zx 1 rfl; have zxc2 := has_cell zx 2 rfl; have zxc3 := has_cell zx 3 rfl
  have zxlt := has_lt zx
  have ZAH := Lib.hid za; clear za
  have ZXH := Lib.hid zx; clear zx
  have ZB := Lib.hid zb; clear zb
  go_wp2_with fail
  clear zac0 zac1 zac2 zac3 zalt zxc0 zxc1 zxc2 zxc3 zxlt
  have za := ZAH.out; clear ZAH
  have zx := ZXH.out; clear ZXH
  have zb := ZB.out; clear ZB
  refine (mostI_any _ w6.heap.size b r xAL xAS xcL xcS xR S (Nat.le_refl _) (RD_x.out.in_ (small_copy HSM.out HG_x.out))).mono ?_
  rintro e w7 hans
  skip
  skip
  rw [HG_x.out, HV.out] at hans
  obtain ⟨gA, gn, rfl, hP, hb⟩ := hans
  dsimp only at hP ⊢
  have kk := RdCo.call RD_m.out hb; clear RD_m; have RD_m := Lib.hid kk; clear kk
  have kk := RdCo.call RD_x.out hb; clear RD_x; have RD_x := Lib.hid kk; clear kk
  have kk := OI.call RI_p.out hb; clear RI_p; have RI_p := Lib.hid kk; clear kk
  have hsw7 := hb.size
  replace za := has_call za hb
  replace zx := has_call zx hb
  replace zb := bthen zb hb; clear hb
  have RI_g := Lib.hid (OI.of_or hP); clear hP
  have zac0 := has_cell za 0 rfl; have zac1 := has_cell za 1 rfl; have zac2 := has_cell za 2 rfl; have zac3 := has_cell za 3 rfl
  have zalt := has_lt za
  have zxc0 := has_cell zx 0 rfl; have zxc1 := has_cell zx 1 rfl; have zxc2 := has_cell zx 2 rfl; have zxc3 := has_cell zx 3 rfl
  have zxlt := has_lt zx
  have ZAH := Lib.hid za; clear za
  have ZXH := Lib.hid zx; clear zx
  have ZB := Lib.hid zb; clear zb
  go_wp2_with fail
  clear zac0 zac1 zac2 zac3 zalt zxc0 zxc1 zxc2 zxc3 zxlt
  have za := ZAH.out; clear ZAH
  have zx := ZXH.out; clear ZXH
  have zb := ZB.out; clear ZB
  refine (eqIntS_any _ w7.heap.size w7.heap.size gA pA gn pn l hLL (Nat.le_refl _) (Nat.le_refl _) RI_g.out.il RI_p.out.il).mono ?_
  rintro e w8 ⟨rfl, hb⟩
  have kk := RdCo.call RD_m.out hb; clear RD_m; have RD_m := Lib.hid kk; clear kk
  have kk := RdCo.call RD_x.out hb; clear RD_x; have RD_x := Lib.hid kk; clear kk
  have kk := OI.call RI_p.out hb; clear RI_p; have RI_p := Lib.hid kk; clear kk
  have kk := OI.call RI_g.out hb; clear RI_g; have RI_g := Lib.hid kk; clear kk
  have hsw8 := hb.size
  replace za := has_call za hb
  replace zx := has_call zx hb
  replace zb := bthen zb hb; clear hb
  have zac0 := has_cell za 0 rfl; have zac1 := has_cell za 1 rfl; have zac2 := has_cell za 2 rfl; have zac3 := has_cell za 3 rfl
  have zalt := has_lt za
  have zxc0 := has_cell zx 0 rfl; have zxc1 := has_cell zx 1 rfl; have zxc2 := has_cell zx 2 rfl; have zxc3 := has_cell zx 3 rfl
  have zxlt := has_lt zx
  have ZAH := Lib.hid za; clear za
  have ZXH := Lib.hid zx; clear zx
  have ZB := Lib.hid zb; clear zb
  try go_wp2_with fail
  have S0 : (fun W : World => (W.cell? ⟨w.heap.size, 0, none⟩ = some (.int .i64 b) ∧ W.cell? ⟨w.heap.size, 1, none⟩ = some (.int .i64 r) ∧ W.cell? ⟨w.heap.size, 2, none⟩ = some (.slice AL R.length cL) ∧ W.cell? ⟨w.heap.size, 3, none⟩ = some (.slice AS S.length cS) ∧ W.cell? ⟨w5.heap.size, 0, none⟩ = some (.int .i64 b) ∧ W.cell? ⟨w5.heap.size, 1, none⟩ = some (.int .i64 r) ∧ W.cell? ⟨w5.heap.size, 2, none⟩ = some (.slice xAL xR.length xcL) ∧ W.cell? ⟨w5.heap.size, 3, none⟩ = some (.slice xAS S.length xcS)) ∧ Below w8.heap.size w8 W) w8.drew := ⟨⟨zac0, zac1, zac2, zac3, zxc0, zxc1, zxc2, zxc3⟩, (Below.refl _ _).drew⟩
  have zc := ZB.out; have zd : Below w.heap.size w w8.drew := zc.drew; have hl1 := zalt; have hl2 := zxlt; have hzz := zc.size
  clear zac0 zac1 zac2 zac3 zalt zxc0 zxc1 zxc2 zxc3 zxlt
  go_region_held3 (fun W : World => (W.cell? ⟨w.heap.size, 0, none⟩ = some (.int .i64 b) ∧ W.cell? ⟨w.heap.size, 1, none⟩ = some (.int .i64 r) ∧ W.cell? ⟨w.heap.size, 2, none⟩ = some (.slice AL R.length cL) ∧ W.cell? ⟨w.heap.size, 3, none⟩ = some (.slice AS S.length cS) ∧ W.cell? ⟨w5.heap.size, 0, none⟩ = some (.int .i64 b) ∧ W.cell? ⟨w5.heap.size, 1, none⟩ = some (.int .i64 r) ∧ W.cell? ⟨w5.heap.size, 2, none⟩ = some (.slice xAL xR.length xcL) ∧ W.cell? ⟨w5.heap.size, 3, none⟩ = some (.slice xAS S.length xcS)) ∧ Below w8.heap.size w8 W) (first | assumption) (first
    | (go_at_call 7; go_must (refine (toRound_any w8.drew w.heap.size b r AL AS cL cS R S HSM.out zd.size (HR.out.below zd)).mono ?_); rintro e wa ⟨yAL, yAS, ycL, ycS, yR, rfl, hg, hrd, hb6⟩; have HG_y := Lib.hid hg; have RD_y := Lib.hid hrd; clear hg hrd; have hb7 : Below w8.heap.size w8 wa := ((Below.refl w8.heap.size w8).drew).trans hb6; have hz7 := hb7.size; clear hb6; have S6 : (fun W : World => (W.cell? ⟨w.heap.size, 0, none⟩ = some (.int .i64 b) ∧ W.cell? ⟨w.heap.size, 1, none⟩ = some (.int .i64 r) ∧ W.cell? ⟨w.heap.size, 2, none⟩ = some (.slice AL R.length cL) ∧ W.cell? ⟨w.heap.size, 3, none⟩ = some (.slice AS S.length cS) ∧ W.cell? ⟨w5.heap.size, 0, none⟩ = some (.int .i64 b) ∧ W.cell? ⟨w5.heap.size, 1, none⟩ = some (.int .i64 r) ∧ W.cell? ⟨w5.heap.size, 2, none⟩ = some (.slice xAL xR.length xcL) ∧ W.cell? ⟨w5.heap.size, 3, none⟩ = some (.slice xAS S.length xcS)) ∧ Below w8.heap.size w8 W) wa := ⟨⟨(bold hb7 _ _ (by omega)).trans S0.1.1, (bold hb7 _ _ (by omega)).trans S0.1.2.1, (bold hb7 _ _ (by omega)).trans S0.1.2.2.1, (bold hb7 _ _ (by omega)).trans S0.1.2.2.2.1, (bold hb7 _ _ (by omega)).trans S0.1.2.2.2.2.1, (bold hb7 _ _ (by omega)).trans S0.1.2.2.2.2.2.1, (bold hb7 _ _ (by omega)).trans S0.1.2.2.2.2.2.2.1, (bold hb7 _ _ (by omega)).trans S0.1.2.2.2.2.2.2.2⟩, hb7⟩)
    | (go_at_call 10; go_must (refine (eqRound_any wa wa.heap.size wa.heap.size b r xAL xAS yAL yAS xcL xcS ycL ycS xR yR S (HG_y.out.trans HG_x.out.symm) (Nat.le_refl _) (Nat.le_refl _) ((RdCo.call RD_x.out hb7).in_ (small_copy HSM.out HG_x.out)) (RD_y.out.in_ (small_copy HSM.out HG_y.out))).mono ?_); rintro e wb ⟨rfl, hb8⟩; have hb9 := bthen hb7 hb8; have S7 : (fun W : World => (W.cell? ⟨w.heap.size, 0, none⟩ = some (.int .i64 b) ∧ W.cell? ⟨w.heap.size, 1, none⟩ = some (.int .i64 r) ∧ W.cell? ⟨w.heap.size, 2, none⟩ = some (.slice AL R.length cL) ∧ W.cell? ⟨w.heap.size, 3, none⟩ = some (.slice AS S.length cS) ∧ W.cell? ⟨w5.heap.size, 0, none⟩ = some (.int .i64 b) ∧ W.cell? ⟨w5.heap.size, 1, none⟩ = some (.int .i64 r) ∧ W.cell? ⟨w5.heap.size, 2, none⟩ = some (.slice xAL xR.length xcL) ∧ W.cell? ⟨w5.heap.size, 3, none⟩ = some (.slice xAS S.length xcS)) ∧ Below w8.heap.size w8 W) wb := ⟨⟨(bold hb9 _ _ (by omega)).trans S0.1.1, (bold hb9 _ _ (by omega)).trans S0.1.2.1, (bold hb9 _ _ (by omega)).trans S0.1.2.2.1, (bold hb9 _ _ (by omega)).trans S0.1.2.2.2.1, (bold hb9 _ _ (by omega)).trans S0.1.2.2.2.2.1, (bold hb9 _ _ (by omega)).trans S0.1.2.2.2.2.2.1, (bold hb9 _ _ (by omega)).trans S0.1.2.2.2.2.2.2.1, (bold hb9 _ _ (by omega)).trans S0.1.2.2.2.2.2.2.2⟩, hb9⟩))
  have hb := S7.2
  clear S0 S6 S7 zc zd hb9 hb8 hb7 HG_y RD_y hl1 hl2
  have za := ZAH.out; clear ZAH
  have zx := ZXH.out; clear ZXH
  have zb := ZB.out; clear ZB
  have kk := RdCo.call RD_m.out hb; clear RD_m; have RD_m := Lib.hid kk; clear kk
  have kk := RdCo.call RD_x.out hb; clear RD_x; have RD_x := Lib.hid kk; clear kk
  have kk := OI.call RI_p.out hb; clear RI_p; have RI_p := Lib.hid kk; clear kk
  have kk := OI.call RI_g.out hb; clear RI_g; have RI_g := Lib.hid kk; clear kk
  have hswb := hb.size
  replace za := has_call za hb
  replace zx := has_call zx hb
  replace zb := bthen zb hb; clear hb
  have zac0 := has_cell za 0 rfl; have zac1 := has_cell za 1 rfl; have zac2 := has_cell za 2 rfl; have zac3 := has_cell za 3 rfl
  have zalt := has_lt za
  have zxc0 := has_cell zx 0 rfl; have zxc1 := has_cell zx 1 rfl; have zxc2 := has_cell zx 2 rfl; have zxc3 := has_cell zx 3 rfl
  have zxlt := has_lt zx
  have ZAH := Lib.hid za; clear za
  have ZXH := Lib.hid zx; clear zx
  have ZB := Lib.hid zb; clear zb
  go_wp2_with fail
  clear zac0 zac1 zac2 zac3 zalt zxc0 zxc1 zxc2 zxc3 zxlt
  have za := ZAH.out; clear ZAH
  have zx := ZXH.out; clear ZXH
  have zb := ZB.out; clear ZB
  refine (markRound_any _ (w4.heap.size) (w5.heap.size) b r xAL xAS xcL xcS xR S 1 (small_copy HSM.out HG_x.out) (by omega) (by omega) (by omega) RD_x.out).mono ?_
  rintro e w9 ⟨rfl, hw⟩
  have kk := RdCo.within RD_m.out hw (by omega); clear RD_m; have RD_m := Lib.hid kk; clear kk
  replace za := hw.has za (by omega)
  replace zx := hw.has zx (by omega)
  have kk := hw.oi RI_p.out (by omega); clear RI_p; have RI_p := Lib.hid kk; clear kk
  have kk := hw.oi RI_g.out (by omega); clear RI_g; have RI_g := Lib.hid kk; clear kk
  replace zb := zb.trans (hw.below (B := w.heap.size) (by omega) (by omega))
  have hsw9 := hw.size
  clear hw RD_x
  have hTS : totR (gOf xR) + S.length ≤ 1048576 := by have h9 := small_copy HSM.out HG_x.out; unfold SmallRd at h9; omega
  obtain ⟨tt, htt⟩ : ∃ u, totR (gOf xR) = u := ⟨_, rfl⟩
  rw [htt] at hTS ⊢
  clear htt
  have zac0 := has_cell za 0 rfl; have zac1 := has_cell za 1 rfl; have zac2 := has_cell za 2 rfl; have zac3 := has_cell za 3 rfl
  have zalt := has_lt za
  have zxc0 := has_cell zx 0 rfl; have zxc1 := has_cell zx 1 rfl; have zxc2 := has_cell zx 2 rfl; have zxc3 := has_cell zx 3 rfl
  have zxlt := has_lt zx
  have ZAH := Lib.hid za; clear za
  have ZXH := Lib.hid zx; clear zx
  have ZB := Lib.hid zb; clear zb
  go_wp2_with fail
  clear zac0 zac1 zac2 zac3 zalt zxc0 zxc1 zxc2 zxc3 zxlt
  have za := ZAH.out; clear ZAH
  have zx := ZXH.out; clear ZXH
  have zb := ZB.out; clear ZB
  refine (eqIntS_any _ w9.heap.size w9.heap.size gA pA gn pn l hLL (Nat.le_refl _) (Nat.le_refl _) RI_g.out.il RI_p.out.il).mono ?_
  rintro e w10 ⟨rfl, hb⟩
  have kk := RdCo.call RD_m.out hb; clear RD_m; have RD_m := Lib.hid kk; clear kk
  have kk := OI.call RI_p.out hb; clear RI_p; have RI_p := Lib.hid kk; clear kk
  have kk := OI.call RI_g.out hb; clear RI_g; have RI_g := Lib.hid kk; clear kk
  have hsw10 := hb.size
  replace za := has_call za hb
  replace zx := has_call zx hb
  replace zb := bthen zb hb; clear hb
  have zac0 := has_cell za 0 rfl; have zac1 := has_cell za 1 rfl; have zac2 := has_cell za 2 rfl; have zac3 := has_cell za 3 rfl
  have zalt := has_lt za
  have zxc0 := has_cell zx 0 rfl; have zxc1 := has_cell zx 1 rfl; have zxc2 := has_cell zx 2 rfl; have zxc3 := has_cell zx 3 rfl
  have zxlt := has_lt zx
  have ZAH := Lib.hid za; clear za
  have ZXH := Lib.hid zx; clear zx
  have ZB := Lib.hid zb; clear zb
  go_wp2_with fail
  clear zac0 zac1 zac2 zac3 zalt zxc0 zxc1 zxc2 zxc3 zxlt
  have za := ZAH.out; clear ZAH
  have zx := ZXH.out; clear ZXH
  have zb := ZB.out; clear ZB
  refine (markInt_any _ (w6.heap.size) gA gn l 1 (by omega) (by omega) (by omega) RI_g.out.or_).mono ?_
  rintro e w11 ⟨rfl, hor, hm⟩
  have hw := within_marks RI_g.out hm; clear hm
  have kk := RdCo.within RD_m.out hw (by omega); clear RD_m; have RD_m := Lib.hid kk; clear kk
  replace za := hw.has za (by omega)
  replace zx := hw.has zx (by omega)
  have kk := hw.oi RI_p.out (by omega); clear RI_p; have RI_p := Lib.hid kk; clear kk
  replace zb := zb.trans (hw.below (B := w.heap.size) (by omega) (by omega))
  have hsw11 := hw.size
  have kk := oi_marked RI_g.out hor (fun h => intV_seq h); clear RI_g hor hw; have RI_g := Lib.hid kk; clear kk
  have zac0 := has_cell za 0 rfl; have zac1 := has_cell za 1 rfl; have zac2 := has_cell za 2 rfl; have zac3 := has_cell za 3 rfl
  have zalt := has_lt za
  have zxc0 := has_cell zx 0 rfl; have zxc1 := has_cell zx 1 rfl; have zxc2 := has_cell zx 2 rfl; have zxc3 := has_cell zx 3 rfl
  have zxlt := has_lt zx
  have ZAH := Lib.hid za; clear za
  have ZXH := Lib.hid zx; clear zx
  have ZB := Lib.hid zb; clear zb
  go_wp2_with fail
  clear zac0 zac1 zac2 zac3 zalt zxc0 zxc1 zxc2 zxc3 zxlt
  have za := ZAH.out; clear ZAH
  have zx := ZXH.out; clear ZXH
  have zb := ZB.out; clear ZB
  refine (heldInt_any _ w11.heap.size gA gn l.length 1 (by omega) (by omega) (by omega) (Nat.le_refl _) (by have h9 := RI_g.out.il; exact h9)).mono ?_
  rintro e w12 ⟨rfl, hb⟩
  have kk := RdCo.call RD_m.out hb; clear RD_m; have RD_m := Lib.hid kk; clear kk
  have kk := OI.call RI_p.out hb; clear RI_p; have RI_p := Lib.hid kk; clear kk
  have kk := OI.call RI_g.out hb; clear RI_g; have RI_g := Lib.hid kk; clear kk
  have hsw12 := hb.size
  replace za := has_call za hb
  replace zx := has_call zx hb
  replace zb := bthen zb hb; clear hb
  have nq : ((1 + (l.length : Int)) != (1 + (l.length : Int))) = false := by simp
  have zac0 := has_cell za 0 rfl; have zac1 := has_cell za 1 rfl; have zac2 := has_cell za 2 rfl; have zac3 := has_cell za 3 rfl
  have zalt := has_lt za
  have zxc0 := has_cell zx 0 rfl; have zxc1 := has_cell zx 1 rfl; have zxc2 := has_cell zx 2 rfl; have zxc3 := has_cell zx 3 rfl
  have zxlt := has_lt zx
  have ZAH := Lib.hid za; clear za
  have ZXH := Lib.hid zx; clear zx
  have ZB := Lib.hid zb; clear zb
  go_wp2_with fail
  clear zac0 zac1 zac2 zac3 zalt zxc0 zxc1 zxc2 zxc3 zxlt
  have za := ZAH.out; clear ZAH
  have zx := ZXH.out; clear ZXH
  have zb := ZB.out; clear ZB
  refine (toRound_any _ w.heap.size b r AL AS cL cS R S HSM.out zb.size (HR.out.below zb)).mono ?_
  rintro e w13 ⟨dAL, dAS, dcL, dcS, dR, rfl, hg, hrd, hb⟩
  have kk := RdCo.call RD_m.out hb; clear RD_m; have RD_m := Lib.hid kk; clear kk
  have kk := OI.call RI_p.out hb; clear RI_p; have RI_p := Lib.hid kk; clear kk
  have kk := OI.call RI_g.out hb; clear RI_g; have RI_g := Lib.hid kk; clear kk
  have hsw13 := hb.size
  replace za := has_call za hb
  replace zx := has_call zx hb
  replace zb := bthen zb hb; clear hb
  have HG_d := Lib.hid hg; have RD_d := Lib.hid hrd; clear hg hrd
  have zac0 := has_cell za 0 rfl; have zac1 := has_cell za 1 rfl; have zac2 := has_cell za 2 rfl; have zac3 := has_cell za 3 rfl
  have zalt := has_lt za
  have zxc0 := has_cell zx 0 rfl; have zxc1 := has_cell zx 1 rfl; have zxc2 := has_cell zx 2 rfl; have zxc3 := has_cell zx 3 rfl
  have zxlt := has_lt zx
  have ZAH := Lib.hid za; clear za
  have ZXH := Lib.hid zx; clear zx
  have ZB := Lib.hid zb; clear zb
  go_wp2_with fail
  clear zac0 zac1 zac2 zac3 zalt zxc0 zxc1 zxc2 zxc3 zxlt
  have za := ZAH.out; clear ZAH
  have zx := ZXH.out; clear ZXH
  have zb := ZB.out; clear ZB
  refine (mostI_any _ w13.heap.size b r dAL dAS dcL dcS dR S (Nat.le_refl _) (RD_d.out.in_ (small_copy HSM.out HG_d.out))).mono ?_
  rintro e w14 hans
  skip
  skip
  rw [HG_d.out, HV.out] at hans
  obtain ⟨hA, hn, rfl, hP, hb⟩ := hans
  dsimp only at hP ⊢
  have kk := RdCo.call RD_m.out hb; clear RD_m; have RD_m := Lib.hid kk; clear kk
  have kk := RdCo.call RD_d.out hb; clear RD_d; have RD_d := Lib.hid kk; clear kk
  have kk := OI.call RI_p.out hb; clear RI_p; have RI_p := Lib.hid kk; clear kk
  have kk := OI.call RI_g.out hb; clear RI_g; have RI_g := Lib.hid kk; clear kk
  have hsw14 := hb.size
  replace za := has_call za hb
  replace zx := has_call zx hb
  replace zb := bthen zb hb; clear hb
  have RI_h := Lib.hid (OI.of_or hP); clear hP
  have zac0 := has_cell za 0 rfl; have zac1 := has_cell za 1 rfl; have zac2 := has_cell za 2 rfl; have zac3 := has_cell za 3 rfl
  have zalt := has_lt za
  have zxc0 := has_cell zx 0 rfl; have zxc1 := has_cell zx 1 rfl; have zxc2 := has_cell zx 2 rfl; have zxc3 := has_cell zx 3 rfl
  have zxlt := has_lt zx
  have ZAH := Lib.hid za; clear za
  have ZXH := Lib.hid zx; clear zx
  have ZB := Lib.hid zb; clear zb
  go_wp2_with fail
  clear zac0 zac1 zac2 zac3 zalt zxc0 zxc1 zxc2 zxc3 zxlt
  have za := ZAH.out; clear ZAH
  have zx := ZXH.out; clear ZXH
  have zb := ZB.out; clear ZB
  refine (eqIntS_any _ w14.heap.size w14.heap.size hA pA hn pn l hLL (Nat.le_refl _) (Nat.le_refl _) RI_h.out.il RI_p.out.il).mono ?_
  rintro e w15 ⟨rfl, hb⟩
  have kk := RdCo.call RD_m.out hb; clear RD_m; have RD_m := Lib.hid kk; clear kk
  have kk := RdCo.call RD_d.out hb; clear RD_d; have RD_d := Lib.hid kk; clear kk
  have kk := OI.call RI_p.out hb; clear RI_p; have RI_p := Lib.hid kk; clear kk
  have kk := OI.call RI_g.out hb; clear RI_g; have RI_g := Lib.hid kk; clear kk
  have kk := OI.call RI_h.out hb; clear RI_h; have RI_h := Lib.hid kk; clear kk
  have hsw15 := hb.size
  replace za := has_call za hb
  replace zx := has_call zx hb
  replace zb := bthen zb hb; clear hb
  have zac0 := has_cell za 0 rfl; have zac1 := has_cell za 1 rfl; have zac2 := has_cell za 2 rfl; have zac3 := has_cell za 3 rfl
  have zalt := has_lt za
  have zxc0 := has_cell zx 0 rfl; have zxc1 := has_cell zx 1 rfl; have zxc2 := has_cell zx 2 rfl; have zxc3 := has_cell zx 3 rfl
  have zxlt := has_lt zx
  have ZAH := Lib.hid za; clear za
  have ZXH := Lib.hid zx; clear zx
  have ZB := Lib.hid zb; clear zb
  go_wp2_with fail
  clear zac0 zac1 zac2 zac3 zalt zxc0 zxc1 zxc2 zxc3 zxlt
  have za := ZAH.out; clear ZAH
  have zx := ZXH.out; clear ZXH
  have zb := ZB.out; clear ZB
  refine (heldInt_any _ w15.heap.size gA gn l.length 1 (by omega) (by omega) (by omega) (Nat.le_refl _) (by have h9 := RI_g.out.il; exact h9)).mono ?_
  rintro e w16 ⟨rfl, hb⟩
  have kk := RdCo.call RD_m.out hb; clear RD_m; have RD_m := Lib.hid kk; clear kk
  have kk := RdCo.call RD_d.out hb; clear RD_d; have RD_d := Lib.hid kk; clear kk
  have kk := OI.call RI_p.out hb; clear RI_p; have RI_p := Lib.hid kk; clear kk
  have kk := OI.call RI_g.out hb; clear RI_g; have RI_g := Lib.hid kk; clear kk
  have kk := OI.call RI_h.out hb; clear RI_h; have RI_h := Lib.hid kk; clear kk
  have hsw16 := hb.size
  replace za := has_call za hb
  replace zx := has_call zx hb
  replace zb := bthen zb hb; clear hb
  have zac0 := has_cell za 0 rfl; have zac1 := has_cell za 1 rfl; have zac2 := has_cell za 2 rfl; have zac3 := has_cell za 3 rfl
  have zalt := has_lt za
  have zxc0 := has_cell zx 0 rfl; have zxc1 := has_cell zx 1 rfl; have zxc2 := has_cell zx 2 rfl; have zxc3 := has_cell zx 3 rfl
  have zxlt := has_lt zx
  have ZAH := Lib.hid za; clear za
  have ZXH := Lib.hid zx; clear zx
  have ZB := Lib.hid zb; clear zb
  go_wp2_with fail
  clear zac0 zac1 zac2 zac3 zalt zxc0 zxc1 zxc2 zxc3 zxlt
  have za := ZAH.out; clear ZAH
  have zx := ZXH.out; clear ZXH
  have zb := ZB.out; clear ZB
  go_ret
  exact ⟨rfl, zb⟩
end Go.Proofs.Ytjcmndbjpbnogaa
