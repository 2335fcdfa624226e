/- Chapter 7: the walk of the exact law of Ride (gen_toui.py). -/
import Derived.Test.YtnjmkoklekmakaaTouF
import Derived.Test.YtnjmkoklekmakaaTouI
import Derived.Deep.RegionHeld3
import Derived.Deep.DeepMust
import Derived.WalkLawsBesides
namespace Go.Proofs.Ytnjmkoklekmakaa
open Go.RowKit
set_option linter.unusedVariables false

theorem ride_v {b r : Int} {G : List (List Int)} {S : List Sp} {O : List Int} {w : World} {e : Ending} {w' : World} (h : RideA b r G S O w e w') : AnsV (rideV (rideT b r G S O)) w e w' := by
  obtain ⟨⟨h1, rfl⟩ | ⟨d, A', c', h1, h2, h3, rfl⟩, hb⟩ := h
  · rw [h1]; exact ⟨none, 0, rfl, .inl rfl, hb⟩
  · rw [h1]; exact ⟨A', c', by simp only [rideV, h2], h3, hb⟩
theorem run_len {G : List (List Int)} {S : List Sp} : ∀ {o : List Int} {d d' : Dv}, runT G S o d = some d' → d'.begins.length = d.begins.length + o.length
  | [], d, d', h => by simp only [runT] at h; injection h with h; subst h; simp
  | i :: o, d, d', h => by
    simp only [runT] at h
    cases hs : stepT G S d i with
    | none => rw [hs] at h; cases h
    | some x =>
      rw [hs] at h
      have h1 := run_len h
      unfold stepT at hs
      split at hs
      · cases hs
      · injection hs with hs
        subst hs
        simp at h1
        rw [h1, List.length_cons]; omega
theorem ride_len (b r : Int) (G : List (List Int)) (S : List Sp) (O : List Int) : (rideV (rideT b r G S O)).1.length ≤ O.length := by
  cases h : rideT b r G S O with
  | none => simp [rideV]
  | some d =>
    unfold rideT at h
    split at h
    · unfold driveT at h
      cases hr : runT G S O ⟨[], b, loadT S O, loadT S O, 0, 0⟩ with
      | none => rw [hr] at h; cases h
      | some e =>
        rw [hr] at h
        dsimp only at h
        split at h
        · cases h
        · injection h with h
          subst h
          have := run_len hr
          simp [rideV] at this ⊢
          omega
    · cases h

set_option maxRecDepth 100000 in
set_option maxHeartbeats 8000000 in
theorem rideLaw_walk (b r : Int) (AL AS : Option Addr) (cL cS : Nat) (R : List Rw) (S : List Sp) (AO : Option Addr) (cO : Nat) (O : List Int) (w : World) (hR : RdIn w w.heap.size AL R AS S) (lO : O.length ≤ maxLen) (hO : IL w w.heap.size AO O) : Calls Try.prog 6 #[.agg #[.int .i64 b, .int .i64 r, .slice AL R.length cL, .slice AS S.length cS], .slice AO O.length cO] w fun e w' => e = .returned (.bool true) ∧ Below w.heap.size w w' := by
  have HR := Lib.hid hR; clear hR
  have HO := Lib.hid hO; clear hO
  have hlo := lO; unfold maxLen at hlo
  have HLO := Lib.hid lO; clear lO
  by_cases hbo : (1048576 : Int) < O.length
  · skip
    go_enter Try.func6, Try.ntmps6
    go_wp2_with fail
    go_ret
    exact ⟨rfl, balloc _ _⟩
  have mO : O.length ≤ 1048576 := by omega
  go_enter Try.func6, Try.ntmps6
  go_wp2_with fail
  generalize hX : (w.alloc (.cells #[.int .i64 b, .int .i64 r, .slice AL R.length cL, .slice AS S.length cS] 25)) = w1
  have hb : Below w.heap.size w w1 := by rw [← hX]; exact balloc _ _
  have hk : Has w1 w.heap.size 25 #[.int .i64 b, .int .i64 r, .slice AL R.length cL, .slice AS S.length cS] := by rw [← hX]; exact has_new _ _ _
  have hzw1 : w1.heap.size = w.heap.size + 1 := by rw [← hX]; simp
  clear hX
  have zb := hb; clear hb
  have za := hk; clear hk
  clear hzw1
  have hlw1 := has_lt za
  refine (szRound_any _ w.heap.size b r AL AS cL cS R S zb.size (HR.out.below zb)).mono ?_
  rintro e w2 ⟨⟨x, rfl, hx⟩, hb⟩
  have hsw2 := hb.size
  replace za := has_call za hb
  replace zb := bthen zb hb; clear hb
  rcases hx with rfl | ⟨hx0, hsm⟩
  · skip
    have zac0 := has_cell za 0 rfl; have zac1 := has_cell za 1 rfl; have zac2 := has_cell za 2 rfl; have zac3 := has_cell za 3 rfl
    have zalt := has_lt za
    have ZAH := Lib.hid za; clear za
    have ZB := Lib.hid zb; clear zb
    go_wp2_with fail
    clear zac0 zac1 zac2 zac3 zalt
    have za := ZAH.out; clear ZAH
    have zb := ZB.out; clear ZB
    go_ret
    exact ⟨rfl, zb⟩
  have HSM := Lib.hid hsm; clear hsm
  obtain ⟨⟨l, en, V⟩, hq⟩ : ∃ V, rideV (rideT b r (gOf R) S O) = V := ⟨_, rfl⟩
  have hl7 : l.length ≤ 1048576 := by have h9 := ride_len b r (gOf R) S O; rw [hq] at h9; exact Nat.le_trans h9 mO
  have HV := Lib.hid hq; clear hq
  have nv : (V != V) = false := by simp
  have ne : (en != en) = false := by simp
  have hLL : l.length ≤ maxLen := by unfold maxLen; omega
  have zac0 := has_cell za 0 rfl; have zac1 := has_cell za 1 rfl; have zac2 := has_cell za 2 rfl; have zac3 := has_cell za 3 rfl
  have zalt := has_lt za
  have ZAH := Lib.hid za; clear za
  have ZB := Lib.hid zb; clear zb
  go_wp2_with fail
  clear zac0 zac1 zac2 zac3 zalt
  have za := ZAH.out; clear ZAH
  have zb := ZB.out; clear ZB
  refine (toRound_any _ w.heap.size b r AL AS cL cS R S HSM.out zb.size (HR.out.below zb)).mono ?_
  rintro e w3 ⟨mAL, mAS, mcL, mcS, mR, rfl, hg, hrd, hb⟩
  have hsw3 := hb.size
  replace za := has_call za hb
  replace zb := bthen zb hb; clear hb
  have HG_m := Lib.hid hg; have RD_m := Lib.hid hrd; clear hg hrd
  have zac0 := has_cell za 0 rfl; have zac1 := has_cell za 1 rfl; have zac2 := has_cell za 2 rfl; have zac3 := has_cell za 3 rfl
  have zalt := has_lt za
  have ZAH := Lib.hid za; clear za
  have ZB := Lib.hid zb; clear zb
  go_wp2_with fail
  clear zac0 zac1 zac2 zac3 zalt
  have za := ZAH.out; clear ZAH
  have zb := ZB.out; clear ZB
  refine (toIntC_any _ w.heap.size AO cO O mO zb.size (HO.out.below zb)).mono ?_
  rintro e w4 ⟨moA, rfl, hP, hb⟩
  have kk := RdCo.call RD_m.out hb; clear RD_m; have RD_m := Lib.hid kk; clear kk
  have hsw4 := hb.size
  replace za := has_call za hb
  replace zb := bthen zb hb; clear hb
  have RI_mo := Lib.hid (OI.of_or hP); clear hP
  have zac0 := has_cell za 0 rfl; have zac1 := has_cell za 1 rfl; have zac2 := has_cell za 2 rfl; have zac3 := has_cell za 3 rfl
  have zalt := has_lt za
  have ZAH := Lib.hid za; clear za
  have ZB := Lib.hid zb; clear zb
  go_wp2_with fail
  clear zac0 zac1 zac2 zac3 zalt
  have za := ZAH.out; clear ZAH
  have zb := ZB.out; clear ZB
  refine (rideS_any _ w4.heap.size b r mAL mAS mcL mcS mR S moA O.length O (Nat.le_refl _) (RD_m.out.in_ (small_copy HSM.out HG_m.out)) HLO.out ⟨Nat.le_refl _, HLO.out⟩ RI_mo.out.il).mono ?_
  rintro e w5 hans
  skip
  replace hans := ride_v hans
  rw [HG_m.out, HV.out] at hans
  obtain ⟨pA, pn, rfl, hP, hb⟩ := hans
  dsimp only at hP ⊢
  have kk := RdCo.call RD_m.out hb; clear RD_m; have RD_m := Lib.hid kk; clear kk
  have kk := OI.call RI_mo.out hb; clear RI_mo; have RI_mo := Lib.hid kk; clear kk
  have hsw5 := hb.size
  replace za := has_call za hb
  replace zb := bthen zb hb; clear hb
  have RI_p := Lib.hid (OI.of_or hP); clear hP
  have zac0 := has_cell za 0 rfl; have zac1 := has_cell za 1 rfl; have zac2 := has_cell za 2 rfl; have zac3 := has_cell za 3 rfl
  have zalt := has_lt za
  have ZAH := Lib.hid za; clear za
  have ZB := Lib.hid zb; clear zb
  go_wp2_with fail
  clear zac0 zac1 zac2 zac3 zalt
  have za := ZAH.out; clear ZAH
  have zb := ZB.out; clear ZB
  refine (toRound_any _ w.heap.size b r AL AS cL cS R S HSM.out zb.size (HR.out.below zb)).mono ?_
  rintro e w6 ⟨xAL, xAS, xcL, xcS, xR, rfl, hg, hrd, hb⟩
  have kk := RdCo.call RD_m.out hb; clear RD_m; have RD_m := Lib.hid kk; clear kk
  have kk := OI.call RI_mo.out hb; clear RI_mo; have RI_mo := Lib.hid kk; clear kk
  have kk := OI.call RI_p.out hb; clear RI_p; have RI_p := Lib.hid kk; clear kk
  have hsw6 := hb.size
  replace za := has_call za hb
  replace zb := bthen zb hb; clear hb
  have HG_x := Lib.hid hg; have RD_x := Lib.hid hrd; clear hg hrd
  have zac0 := has_cell za 0 rfl; have zac1 := has_cell za 1 rfl; have zac2 := has_cell za 2 rfl; have zac3 := has_cell za 3 rfl
  have zalt := has_lt za
  have ZAH := Lib.hid za; clear za
  have ZB := Lib.hid zb; clear zb
  go_wp2_with fail
  clear zac0 zac1 zac2 zac3 zalt
  have za := ZAH.out; clear ZAH
  have zb := ZB.out; clear ZB
  generalize hX : (w6.alloc (.cells #[.int .i64 b, .int .i64 r, .slice xAL xR.length xcL, .slice xAS S.length xcS] 30)) = w7
  have hb : Below w6.heap.size w6 w7 := by rw [← hX]; exact balloc _ _
  have hk : Has w7 w6.heap.size 30 #[.int .i64 b, .int .i64 r, .slice xAL xR.length xcL, .slice xAS S.length xcS] := by rw [← hX]; exact has_new _ _ _
  clear hX
  have kk := RdCo.call RD_m.out hb; clear RD_m; have RD_m := Lib.hid kk; clear kk
  have kk := RdCo.call RD_x.out hb; clear RD_x; have RD_x := Lib.hid kk; clear kk
  have kk := OI.call RI_mo.out hb; clear RI_mo; have RI_mo := Lib.hid kk; clear kk
  have kk := OI.call RI_p.out hb; clear RI_p; have RI_p := Lib.hid kk; clear kk
  have hsw7 := hb.size
  replace za := has_call za hb
  replace zb := bthen zb hb; clear hb
  have zx := hk; clear hk; have hlzx := has_lt zx
  have zac0 := has_cell za 0 rfl; have zac1 := has_cell za 1 rfl; have zac2 := has_cell za 2 rfl; have zac3 := has_cell za 3 rfl
  have zalt := has_lt za
  have zxc0 := has_cell zx 0 rfl; have zxc1 := has_cell zx 1 rfl; have zxc2 := has_cell zx 2 rfl; have zxc3 := has_cell zx 3 rfl
  have zxlt := has_lt zx
  have ZAH := Lib.hid za; clear za
  have ZXH := Lib.hid zx; clear zx
  have ZB := Lib.hid zb; clear zb
  go_wp2_with fail
  clear zac0 zac1 zac2 zac3 zalt zxc0 zxc1 zxc2 zxc3 zxlt
  have za := ZAH.out; clear ZAH
  have zx := ZXH.out; clear ZXH
  have zb := ZB.out; clear ZB
  refine (toIntC_any _ w.heap.size AO cO O mO zb.size (HO.out.below zb)).mono ?_
  rintro e w8 ⟨xoA, rfl, hP, hb⟩
  have kk := RdCo.call RD_m.out hb; clear RD_m; have RD_m := Lib.hid kk; clear kk
  have kk := RdCo.call RD_x.out hb; clear RD_x; have RD_x := Lib.hid kk; clear kk
  have kk := OI.call RI_mo.out hb; clear RI_mo; have RI_mo := Lib.hid kk; clear kk
  have kk := OI.call RI_p.out hb; clear RI_p; have RI_p := Lib.hid kk; clear kk
  have hsw8 := hb.size
  replace za := has_call za hb
  replace zx := has_call zx hb
  replace zb := bthen zb hb; clear hb
  have RI_xo := Lib.hid (OI.of_or hP); clear hP
  have zac0 := has_cell za 0 rfl; have zac1 := has_cell za 1 rfl; have zac2 := has_cell za 2 rfl; have zac3 := has_cell za 3 rfl
  have zalt := has_lt za
  have zxc0 := has_cell zx 0 rfl; have zxc1 := has_cell zx 1 rfl; have zxc2 := has_cell zx 2 rfl; have zxc3 := has_cell zx 3 rfl
  have zxlt := has_lt zx
  have ZAH := Lib.hid za; clear za
  have ZXH := Lib.hid zx; clear zx
  have ZB := Lib.hid zb; clear zb
  go_wp2_with fail
  clear zac0 zac1 zac2 zac3 zalt zxc0 zxc1 zxc2 zxc3 zxlt
  have za := ZAH.out; clear ZAH
  have zx := ZXH.out; clear ZXH
  have zb := ZB.out; clear ZB
  refine (rideI_any _ w8.heap.size b r xAL xAS xcL xcS xR S xoA O.length O (Nat.le_refl _) (RD_x.out.in_ (small_copy HSM.out HG_x.out)) HLO.out RI_xo.out.il).mono ?_
  rintro e w9 hans
  skip
  replace hans := ride_v hans
  rw [HG_x.out, HV.out] at hans
  obtain ⟨gA, gn, rfl, hP, hb⟩ := hans
  dsimp only at hP ⊢
  have kk := RdCo.call RD_m.out hb; clear RD_m; have RD_m := Lib.hid kk; clear kk
  have kk := RdCo.call RD_x.out hb; clear RD_x; have RD_x := Lib.hid kk; clear kk
  have kk := OI.call RI_mo.out hb; clear RI_mo; have RI_mo := Lib.hid kk; clear kk
  have kk := OI.call RI_p.out hb; clear RI_p; have RI_p := Lib.hid kk; clear kk
  have kk := OI.call RI_xo.out hb; clear RI_xo; have RI_xo := Lib.hid kk; clear kk
  have hsw9 := hb.size
  replace za := has_call za hb
  replace zx := has_call zx hb
  replace zb := bthen zb hb; clear hb
  have RI_g := Lib.hid (OI.of_or hP); clear hP
  have zac0 := has_cell za 0 rfl; have zac1 := has_cell za 1 rfl; have zac2 := has_cell za 2 rfl; have zac3 := has_cell za 3 rfl
  have zalt := has_lt za
  have zxc0 := has_cell zx 0 rfl; have zxc1 := has_cell zx 1 rfl; have zxc2 := has_cell zx 2 rfl; have zxc3 := has_cell zx 3 rfl
  have zxlt := has_lt zx
  have ZAH := Lib.hid za; clear za
  have ZXH := Lib.hid zx; clear zx
  have ZB := Lib.hid zb; clear zb
  go_wp2_with fail
  clear zac0 zac1 zac2 zac3 zalt zxc0 zxc1 zxc2 zxc3 zxlt
  have za := ZAH.out; clear ZAH
  have zx := ZXH.out; clear ZXH
  have zb := ZB.out; clear ZB
  refine (eqIntS_any _ w9.heap.size w9.heap.size gA pA gn pn l hLL (Nat.le_refl _) (Nat.le_refl _) RI_g.out.il RI_p.out.il).mono ?_
  rintro e w10 ⟨rfl, hb⟩
  have kk := RdCo.call RD_m.out hb; clear RD_m; have RD_m := Lib.hid kk; clear kk
  have kk := RdCo.call RD_x.out hb; clear RD_x; have RD_x := Lib.hid kk; clear kk
  have kk := OI.call RI_mo.out hb; clear RI_mo; have RI_mo := Lib.hid kk; clear kk
  have kk := OI.call RI_p.out hb; clear RI_p; have RI_p := Lib.hid kk; clear kk
  have kk := OI.call RI_xo.out hb; clear RI_xo; have RI_xo := Lib.hid kk; clear kk
  have kk := OI.call RI_g.out hb; clear RI_g; have RI_g := Lib.hid kk; clear kk
  have hsw10 := hb.size
  replace za := has_call za hb
  replace zx := has_call zx hb
  replace zb := bthen zb hb; clear hb
  have zac0 := has_cell za 0 rfl; have zac1 := has_cell za 1 rfl; have zac2 := has_cell za 2 rfl; have zac3 := has_cell za 3 rfl
  have zalt := has_lt za
  have zxc0 := has_cell zx 0 rfl; have zxc1 := has_cell zx 1 rfl; have zxc2 := has_cell zx 2 rfl; have zxc3 := has_cell zx 3 rfl
  have zxlt := has_lt zx
  have ZAH := Lib.hid za; clear za
  have ZXH := Lib.hid zx; clear zx
  have ZB := Lib.hid zb; clear zb
  try go_wp2_with fail
  have S0 : (fun W : World => (W.cell? ⟨w.heap.size, 0, none⟩ = some (.int .i64 b) ∧ W.cell? ⟨w.heap.size, 1, none⟩ = some (.int .i64 r) ∧ W.cell? ⟨w.heap.size, 2, none⟩ = some (.slice AL R.length cL) ∧ W.cell? ⟨w.heap.size, 3, none⟩ = some (.slice AS S.length cS) ∧ W.cell? ⟨w6.heap.size, 0, none⟩ = some (.int .i64 b) ∧ W.cell? ⟨w6.heap.size, 1, none⟩ = some (.int .i64 r) ∧ W.cell? ⟨w6.heap.size, 2, none⟩ = some (.slice xAL xR.length xcL) ∧ W.cell? ⟨w6.heap.size, 3, none⟩ = some (.slice xAS S.length xcS)) ∧ Below w10.heap.size w10 W) w10.drew := ⟨⟨zac0, zac1, zac2, zac3, zxc0, zxc1, zxc2, zxc3⟩, (Below.refl _ _).drew⟩
  have zc := ZB.out; have zd : Below w.heap.size w w10.drew := zc.drew; have hl1 := zalt; have hl2 := zxlt; have hzz := zc.size
  clear zac0 zac1 zac2 zac3 zalt zxc0 zxc1 zxc2 zxc3 zxlt
  go_region_held3 (fun W : World => (W.cell? ⟨w.heap.size, 0, none⟩ = some (.int .i64 b) ∧ W.cell? ⟨w.heap.size, 1, none⟩ = some (.int .i64 r) ∧ W.cell? ⟨w.heap.size, 2, none⟩ = some (.slice AL R.length cL) ∧ W.cell? ⟨w.heap.size, 3, none⟩ = some (.slice AS S.length cS) ∧ W.cell? ⟨w6.heap.size, 0, none⟩ = some (.int .i64 b) ∧ W.cell? ⟨w6.heap.size, 1, none⟩ = some (.int .i64 r) ∧ W.cell? ⟨w6.heap.size, 2, none⟩ = some (.slice xAL xR.length xcL) ∧ W.cell? ⟨w6.heap.size, 3, none⟩ = some (.slice xAS S.length xcS)) ∧ Below w10.heap.size w10 W) (first | assumption) (first
    | (go_at_call 11; go_must (refine (toRound_any w10.drew w.heap.size b r AL AS cL cS R S HSM.out zd.size (HR.out.below zd)).mono ?_); rintro e wa ⟨yAL, yAS, ycL, ycS, yR, rfl, hg, hrd, hb6⟩; have HG_y := Lib.hid hg; have RD_y := Lib.hid hrd; clear hg hrd; have hb7 : Below w10.heap.size w10 wa := ((Below.refl w10.heap.size w10).drew).trans hb6; have hz7 := hb7.size; clear hb6; have S6 : (fun W : World => (W.cell? ⟨w.heap.size, 0, none⟩ = some (.int .i64 b) ∧ W.cell? ⟨w.heap.size, 1, none⟩ = some (.int .i64 r) ∧ W.cell? ⟨w.heap.size, 2, none⟩ = some (.slice AL R.length cL) ∧ W.cell? ⟨w.heap.size, 3, none⟩ = some (.slice AS S.length cS) ∧ W.cell? ⟨w6.heap.size, 0, none⟩ = some (.int .i64 b) ∧ W.cell? ⟨w6.heap.size, 1, none⟩ = some (.int .i64 r) ∧ W.cell? ⟨w6.heap.size, 2, none⟩ = some (.slice xAL xR.length xcL) ∧ W.cell? ⟨w6.heap.size, 3, none⟩ = some (.slice xAS S.length xcS)) ∧ Below w10.heap.size w10 W) wa := ⟨⟨(bold hb7 _ _ (by omega)).trans S0.1.1, (bold hb7 _ _ (by omega)).trans S0.1.2.1, (bold hb7 _ _ (by omega)).trans S0.1.2.2.1, (bold hb7 _ _ (by omega)).trans S0.1.2.2.2.1, (bold hb7 _ _ (by omega)).trans S0.1.2.2.2.2.1, (bold hb7 _ _ (by omega)).trans S0.1.2.2.2.2.2.1, (bold hb7 _ _ (by omega)).trans S0.1.2.2.2.2.2.2.1, (bold hb7 _ _ (by omega)).trans S0.1.2.2.2.2.2.2.2⟩, hb7⟩)
    | (go_at_call 13; go_must (refine (eqRound_any wa wa.heap.size wa.heap.size b r xAL xAS yAL yAS xcL xcS ycL ycS xR yR S (HG_y.out.trans HG_x.out.symm) (Nat.le_refl _) (Nat.le_refl _) ((RdCo.call RD_x.out hb7).in_ (small_copy HSM.out HG_x.out)) (RD_y.out.in_ (small_copy HSM.out HG_y.out))).mono ?_); rintro e wb ⟨rfl, hb8⟩; have hb9 := bthen hb7 hb8; have S7 : (fun W : World => (W.cell? ⟨w.heap.size, 0, none⟩ = some (.int .i64 b) ∧ W.cell? ⟨w.heap.size, 1, none⟩ = some (.int .i64 r) ∧ W.cell? ⟨w.heap.size, 2, none⟩ = some (.slice AL R.length cL) ∧ W.cell? ⟨w.heap.size, 3, none⟩ = some (.slice AS S.length cS) ∧ W.cell? ⟨w6.heap.size, 0, none⟩ = some (.int .i64 b) ∧ W.cell? ⟨w6.heap.size, 1, none⟩ = some (.int .i64 r) ∧ W.cell? ⟨w6.heap.size, 2, none⟩ = some (.slice xAL xR.length xcL) ∧ W.cell? ⟨w6.heap.size, 3, none⟩ = some (.slice xAS S.length xcS)) ∧ Below w10.heap.size w10 W) wb := ⟨⟨(bold hb9 _ _ (by omega)).trans S0.1.1, (bold hb9 _ _ (by omega)).trans S0.1.2.1, (bold hb9 _ _ (by omega)).trans S0.1.2.2.1, (bold hb9 _ _ (by omega)).trans S0.1.2.2.2.1, (bold hb9 _ _ (by omega)).trans S0.1.2.2.2.2.1, (bold hb9 _ _ (by omega)).trans S0.1.2.2.2.2.2.1, (bold hb9 _ _ (by omega)).trans S0.1.2.2.2.2.2.2.1, (bold hb9 _ _ (by omega)).trans S0.1.2.2.2.2.2.2.2⟩, hb9⟩))
  have hb := S7.2
  clear S0 S6 S7 zc zd hb9 hb8 hb7 HG_y RD_y hl1 hl2
  have za := ZAH.out; clear ZAH
  have zx := ZXH.out; clear ZXH
  have zb := ZB.out; clear ZB
  have kk := RdCo.call RD_m.out hb; clear RD_m; have RD_m := Lib.hid kk; clear kk
  have kk := RdCo.call RD_x.out hb; clear RD_x; have RD_x := Lib.hid kk; clear kk
  have kk := OI.call RI_mo.out hb; clear RI_mo; have RI_mo := Lib.hid kk; clear kk
  have kk := OI.call RI_p.out hb; clear RI_p; have RI_p := Lib.hid kk; clear kk
  have kk := OI.call RI_xo.out hb; clear RI_xo; have RI_xo := Lib.hid kk; clear kk
  have kk := OI.call RI_g.out hb; clear RI_g; have RI_g := Lib.hid kk; clear kk
  have hswb := hb.size
  replace za := has_call za hb
  replace zx := has_call zx hb
  replace zb := bthen zb hb; clear hb
  have zac0 := has_cell za 0 rfl; have zac1 := has_cell za 1 rfl; have zac2 := has_cell za 2 rfl; have zac3 := has_cell za 3 rfl
  have zalt := has_lt za
  have zxc0 := has_cell zx 0 rfl; have zxc1 := has_cell zx 1 rfl; have zxc2 := has_cell zx 2 rfl; have zxc3 := has_cell zx 3 rfl
  have zxlt := has_lt zx
  have ZAH := Lib.hid za; clear za
  have ZXH := Lib.hid zx; clear zx
  have ZB := Lib.hid zb; clear zb
  go_wp2_with fail
  clear zac0 zac1 zac2 zac3 zalt zxc0 zxc1 zxc2 zxc3 zxlt
  have za := ZAH.out; clear ZAH
  have zx := ZXH.out; clear ZXH
  have zb := ZB.out; clear ZB
  refine (toIntC_any _ w.heap.size AO cO O mO zb.size (HO.out.below zb)).mono ?_
  rintro e w11 ⟨yoA, rfl, hP, hb⟩
  have kk := RdCo.call RD_m.out hb; clear RD_m; have RD_m := Lib.hid kk; clear kk
  have kk := RdCo.call RD_x.out hb; clear RD_x; have RD_x := Lib.hid kk; clear kk
  have kk := OI.call RI_mo.out hb; clear RI_mo; have RI_mo := Lib.hid kk; clear kk
  have kk := OI.call RI_p.out hb; clear RI_p; have RI_p := Lib.hid kk; clear kk
  have kk := OI.call RI_xo.out hb; clear RI_xo; have RI_xo := Lib.hid kk; clear kk
  have kk := OI.call RI_g.out hb; clear RI_g; have RI_g := Lib.hid kk; clear kk
  have hsw11 := hb.size
  replace za := has_call za hb
  replace zx := has_call zx hb
  replace zb := bthen zb hb; clear hb
  have RI_yo := Lib.hid (OI.of_or hP); clear hP
  have zac0 := has_cell za 0 rfl; have zac1 := has_cell za 1 rfl; have zac2 := has_cell za 2 rfl; have zac3 := has_cell za 3 rfl
  have zalt := has_lt za
  have zxc0 := has_cell zx 0 rfl; have zxc1 := has_cell zx 1 rfl; have zxc2 := has_cell zx 2 rfl; have zxc3 := has_cell zx 3 rfl
  have zxlt := has_lt zx
  have ZAH := Lib.hid za; clear za
  have ZXH := Lib.hid zx; clear zx
  have ZB := Lib.hid zb; clear zb
  go_wp2_with fail
  clear zac0 zac1 zac2 zac3 zalt zxc0 zxc1 zxc2 zxc3 zxlt
  have za := ZAH.out; clear ZAH
  have zx := ZXH.out; clear ZXH
  have zb := ZB.out; clear ZB
  refine (eqIntS_any _ w11.heap.size w11.heap.size xoA yoA O.length O.length O HLO.out (Nat.le_refl _) (Nat.le_refl _) RI_xo.out.il RI_yo.out.il).mono ?_
  rintro e w12 ⟨rfl, hb⟩
  have kk := RdCo.call RD_m.out hb; clear RD_m; have RD_m := Lib.hid kk; clear kk
  have kk := RdCo.call RD_x.out hb; clear RD_x; have RD_x := Lib.hid kk; clear kk
  have kk := OI.call RI_mo.out hb; clear RI_mo; have RI_mo := Lib.hid kk; clear kk
  have kk := OI.call RI_p.out hb; clear RI_p; have RI_p := Lib.hid kk; clear kk
  have kk := OI.call RI_xo.out hb; clear RI_xo; have RI_xo := Lib.hid kk; clear kk
  have kk := OI.call RI_g.out hb; clear RI_g; have RI_g := Lib.hid kk; clear kk
  have kk := OI.call RI_yo.out hb; clear RI_yo; have RI_yo := Lib.hid kk; clear kk
  have hsw12 := hb.size
  replace za := has_call za hb
  replace zx := has_call zx hb
  replace zb := bthen zb hb; clear hb
  have zac0 := has_cell za 0 rfl; have zac1 := has_cell za 1 rfl; have zac2 := has_cell za 2 rfl; have zac3 := has_cell za 3 rfl
  have zalt := has_lt za
  have zxc0 := has_cell zx 0 rfl; have zxc1 := has_cell zx 1 rfl; have zxc2 := has_cell zx 2 rfl; have zxc3 := has_cell zx 3 rfl
  have zxlt := has_lt zx
  have ZAH := Lib.hid za; clear za
  have ZXH := Lib.hid zx; clear zx
  have ZB := Lib.hid zb; clear zb
  go_wp2_with fail
  clear zac0 zac1 zac2 zac3 zalt zxc0 zxc1 zxc2 zxc3 zxlt
  have za := ZAH.out; clear ZAH
  have zx := ZXH.out; clear ZXH
  have zb := ZB.out; clear ZB
  refine (markRound_any _ (w5.heap.size) (w6.heap.size) b r xAL xAS xcL xcS xR S 1 (small_copy HSM.out HG_x.out) (by omega) (by omega) (by omega) RD_x.out).mono ?_
  rintro e w13 ⟨rfl, hw⟩
  have kk := RdCo.within RD_m.out hw (by omega); clear RD_m; have RD_m := Lib.hid kk; clear kk
  replace za := hw.has za (by omega)
  replace zx := hw.has zx (by omega)
  have kk := hw.oi RI_mo.out (by omega); clear RI_mo; have RI_mo := Lib.hid kk; clear kk
  have kk := hw.oi RI_p.out (by omega); clear RI_p; have RI_p := Lib.hid kk; clear kk
  have kk := hw.oi RI_xo.out (by omega); clear RI_xo; have RI_xo := Lib.hid kk; clear kk
  have kk := hw.oi RI_g.out (by omega); clear RI_g; have RI_g := Lib.hid kk; clear kk
  have kk := hw.oi RI_yo.out (by omega); clear RI_yo; have RI_yo := Lib.hid kk; clear kk
  replace zb := zb.trans (hw.below (B := w.heap.size) (by omega) (by omega))
  have hsw13 := hw.size
  clear hw RD_x
  have hTS : totR (gOf xR) + S.length ≤ 1048576 := by have h9 := small_copy HSM.out HG_x.out; unfold SmallRd at h9; omega
  obtain ⟨tt, htt⟩ : ∃ u, totR (gOf xR) = u := ⟨_, rfl⟩
  rw [htt] at hTS ⊢
  clear htt
  have zac0 := has_cell za 0 rfl; have zac1 := has_cell za 1 rfl; have zac2 := has_cell za 2 rfl; have zac3 := has_cell za 3 rfl
  have zalt := has_lt za
  have zxc0 := has_cell zx 0 rfl; have zxc1 := has_cell zx 1 rfl; have zxc2 := has_cell zx 2 rfl; have zxc3 := has_cell zx 3 rfl
  have zxlt := has_lt zx
  have ZAH := Lib.hid za; clear za
  have ZXH := Lib.hid zx; clear zx
  have ZB := Lib.hid zb; clear zb
  go_wp2_with fail
  clear zac0 zac1 zac2 zac3 zalt zxc0 zxc1 zxc2 zxc3 zxlt
  have za := ZAH.out; clear ZAH
  have zx := ZXH.out; clear ZXH
  have zb := ZB.out; clear ZB
  refine (markInt_any _ (w7.heap.size) xoA O.length O (1 + (tt : Int) + 5 * (S.length : Int)) mO (by omega) (by omega) RI_xo.out.or_).mono ?_
  rintro e w14 ⟨rfl, _, hm⟩
  have hw := within_marks RI_xo.out hm; clear hm
  have kk := RdCo.within RD_m.out hw (by omega); clear RD_m; have RD_m := Lib.hid kk; clear kk
  replace za := hw.has za (by omega)
  replace zx := hw.has zx (by omega)
  have kk := hw.oi RI_mo.out (by omega); clear RI_mo; have RI_mo := Lib.hid kk; clear kk
  have kk := hw.oi RI_p.out (by omega); clear RI_p; have RI_p := Lib.hid kk; clear kk
  have kk := hw.oi RI_g.out (by omega); clear RI_g; have RI_g := Lib.hid kk; clear kk
  have kk := hw.oi RI_yo.out (by omega); clear RI_yo; have RI_yo := Lib.hid kk; clear kk
  replace zb := zb.trans (hw.below (B := w.heap.size) (by omega) (by omega))
  have hsw14 := hw.size
  clear hw RI_xo
  have zac0 := has_cell za 0 rfl; have zac1 := has_cell za 1 rfl; have zac2 := has_cell za 2 rfl; have zac3 := has_cell za 3 rfl
  have zalt := has_lt za
  have zxc0 := has_cell zx 0 rfl; have zxc1 := has_cell zx 1 rfl; have zxc2 := has_cell zx 2 rfl; have zxc3 := has_cell zx 3 rfl
  have zxlt := has_lt zx
  have ZAH := Lib.hid za; clear za
  have ZXH := Lib.hid zx; clear zx
  have ZB := Lib.hid zb; clear zb
  go_wp2_with fail
  clear zac0 zac1 zac2 zac3 zalt zxc0 zxc1 zxc2 zxc3 zxlt
  have za := ZAH.out; clear ZAH
  have zx := ZXH.out; clear ZXH
  have zb := ZB.out; clear ZB
  refine (eqIntS_any _ w14.heap.size w14.heap.size gA pA gn pn l hLL (Nat.le_refl _) (Nat.le_refl _) RI_g.out.il RI_p.out.il).mono ?_
  rintro e w15 ⟨rfl, hb⟩
  have kk := RdCo.call RD_m.out hb; clear RD_m; have RD_m := Lib.hid kk; clear kk
  have kk := OI.call RI_mo.out hb; clear RI_mo; have RI_mo := Lib.hid kk; clear kk
  have kk := OI.call RI_p.out hb; clear RI_p; have RI_p := Lib.hid kk; clear kk
  have kk := OI.call RI_g.out hb; clear RI_g; have RI_g := Lib.hid kk; clear kk
  have kk := OI.call RI_yo.out hb; clear RI_yo; have RI_yo := Lib.hid kk; clear kk
  have hsw15 := hb.size
  replace za := has_call za hb
  replace zx := has_call zx hb
  replace zb := bthen zb hb; clear hb
  have zac0 := has_cell za 0 rfl; have zac1 := has_cell za 1 rfl; have zac2 := has_cell za 2 rfl; have zac3 := has_cell za 3 rfl
  have zalt := has_lt za
  have zxc0 := has_cell zx 0 rfl; have zxc1 := has_cell zx 1 rfl; have zxc2 := has_cell zx 2 rfl; have zxc3 := has_cell zx 3 rfl
  have zxlt := has_lt zx
  have ZAH := Lib.hid za; clear za
  have ZXH := Lib.hid zx; clear zx
  have ZB := Lib.hid zb; clear zb
  go_wp2_with fail
  clear zac0 zac1 zac2 zac3 zalt zxc0 zxc1 zxc2 zxc3 zxlt
  have za := ZAH.out; clear ZAH
  have zx := ZXH.out; clear ZXH
  have zb := ZB.out; clear ZB
  refine (markInt_any _ (w8.heap.size) gA gn l 1 (by omega) (by omega) (by omega) RI_g.out.or_).mono ?_
  rintro e w16 ⟨rfl, hor, hm⟩
  have hw := within_marks RI_g.out hm; clear hm
  have kk := RdCo.within RD_m.out hw (by omega); clear RD_m; have RD_m := Lib.hid kk; clear kk
  replace za := hw.has za (by omega)
  replace zx := hw.has zx (by omega)
  have kk := hw.oi RI_mo.out (by omega); clear RI_mo; have RI_mo := Lib.hid kk; clear kk
  have kk := hw.oi RI_p.out (by omega); clear RI_p; have RI_p := Lib.hid kk; clear kk
  have kk := hw.oi RI_yo.out (by omega); clear RI_yo; have RI_yo := Lib.hid kk; clear kk
  replace zb := zb.trans (hw.below (B := w.heap.size) (by omega) (by omega))
  have hsw16 := hw.size
  have kk := oi_marked RI_g.out hor (fun h => intV_seq h); clear RI_g hor hw; have RI_g := Lib.hid kk; clear kk
  have zac0 := has_cell za 0 rfl; have zac1 := has_cell za 1 rfl; have zac2 := has_cell za 2 rfl; have zac3 := has_cell za 3 rfl
  have zalt := has_lt za
  have zxc0 := has_cell zx 0 rfl; have zxc1 := has_cell zx 1 rfl; have zxc2 := has_cell zx 2 rfl; have zxc3 := has_cell zx 3 rfl
  have zxlt := has_lt zx
  have ZAH := Lib.hid za; clear za
  have ZXH := Lib.hid zx; clear zx
  have ZB := Lib.hid zb; clear zb
  go_wp2_with fail
  clear zac0 zac1 zac2 zac3 zalt zxc0 zxc1 zxc2 zxc3 zxlt
  have za := ZAH.out; clear ZAH
  have zx := ZXH.out; clear ZXH
  have zb := ZB.out; clear ZB
  refine (heldInt_any _ w16.heap.size gA gn l.length 1 (by omega) (by omega) (by omega) (Nat.le_refl _) (by have h9 := RI_g.out.il; exact h9)).mono ?_
  rintro e w17 ⟨rfl, hb⟩
  have kk := RdCo.call RD_m.out hb; clear RD_m; have RD_m := Lib.hid kk; clear kk
  have kk := OI.call RI_mo.out hb; clear RI_mo; have RI_mo := Lib.hid kk; clear kk
  have kk := OI.call RI_p.out hb; clear RI_p; have RI_p := Lib.hid kk; clear kk
  have kk := OI.call RI_g.out hb; clear RI_g; have RI_g := Lib.hid kk; clear kk
  have kk := OI.call RI_yo.out hb; clear RI_yo; have RI_yo := Lib.hid kk; clear kk
  have hsw17 := hb.size
  replace za := has_call za hb
  replace zx := has_call zx hb
  replace zb := bthen zb hb; clear hb
  have nq : ((1 + (l.length : Int)) != (1 + (l.length : Int))) = false := by simp
  have zac0 := has_cell za 0 rfl; have zac1 := has_cell za 1 rfl; have zac2 := has_cell za 2 rfl; have zac3 := has_cell za 3 rfl
  have zalt := has_lt za
  have zxc0 := has_cell zx 0 rfl; have zxc1 := has_cell zx 1 rfl; have zxc2 := has_cell zx 2 rfl; have zxc3 := has_cell zx 3 rfl
  have zxlt := has_lt zx
  have ZAH := Lib.hid za; clear za
  have ZXH := Lib.hid zx; clear zx
  have ZB := Lib.hid zb; clear zb
  go_wp2_with fail
  clear zac0 zac1 zac2 zac3 zalt zxc0 zxc1 zxc2 zxc3 zxlt
  have za := ZAH.out; clear ZAH
  have zx := ZXH.out; clear ZXH
  have zb := ZB.out; clear ZB
  refine (toRound_any _ w.heap.size b r AL AS cL cS R S HSM.out zb.size (HR.out.below zb)).mono ?_
  rintro e w18 ⟨dAL, dAS, dcL, dcS, dR, rfl, hg, hrd, hb⟩
  have kk := RdCo.call RD_m.out hb; clear RD_m; have RD_m := Lib.hid kk; clear kk
  have kk := OI.call RI_mo.out hb; clear RI_mo; have RI_mo := Lib.hid kk; clear kk
  have kk := OI.call RI_p.out hb; clear RI_p; have RI_p := Lib.hid kk; clear kk
  have kk := OI.call RI_g.out hb; clear RI_g; have RI_g := Lib.hid kk; clear kk
  have kk := OI.call RI_yo.out hb; clear RI_yo; have RI_yo := Lib.hid kk; clear kk
  have hsw18 := hb.size
  replace za := has_call za hb
  replace zx := has_call zx hb
  replace zb := bthen zb hb; clear hb
  have HG_d := Lib.hid hg; have RD_d := Lib.hid hrd; clear hg hrd
  have zac0 := has_cell za 0 rfl; have zac1 := has_cell za 1 rfl; have zac2 := has_cell za 2 rfl; have zac3 := has_cell za 3 rfl
  have zalt := has_lt za
  have zxc0 := has_cell zx 0 rfl; have zxc1 := has_cell zx 1 rfl; have zxc2 := has_cell zx 2 rfl; have zxc3 := has_cell zx 3 rfl
  have zxlt := has_lt zx
  have ZAH := Lib.hid za; clear za
  have ZXH := Lib.hid zx; clear zx
  have ZB := Lib.hid zb; clear zb
  go_wp2_with fail
  clear zac0 zac1 zac2 zac3 zalt zxc0 zxc1 zxc2 zxc3 zxlt
  have za := ZAH.out; clear ZAH
  have zx := ZXH.out; clear ZXH
  have zb := ZB.out; clear ZB
  refine (toIntC_any _ w.heap.size AO cO O mO zb.size (HO.out.below zb)).mono ?_
  rintro e w19 ⟨doA, rfl, hP, hb⟩
  have kk := RdCo.call RD_m.out hb; clear RD_m; have RD_m := Lib.hid kk; clear kk
  have kk := RdCo.call RD_d.out hb; clear RD_d; have RD_d := Lib.hid kk; clear kk
  have kk := OI.call RI_mo.out hb; clear RI_mo; have RI_mo := Lib.hid kk; clear kk
  have kk := OI.call RI_p.out hb; clear RI_p; have RI_p := Lib.hid kk; clear kk
  have kk := OI.call RI_g.out hb; clear RI_g; have RI_g := Lib.hid kk; clear kk
  have kk := OI.call RI_yo.out hb; clear RI_yo; have RI_yo := Lib.hid kk; clear kk
  have hsw19 := hb.size
  replace za := has_call za hb
  replace zx := has_call zx hb
  replace zb := bthen zb hb; clear hb
  have RI_do := Lib.hid (OI.of_or hP); clear hP
  have zac0 := has_cell za 0 rfl; have zac1 := has_cell za 1 rfl; have zac2 := has_cell za 2 rfl; have zac3 := has_cell za 3 rfl
  have zalt := has_lt za
  have zxc0 := has_cell zx 0 rfl; have zxc1 := has_cell zx 1 rfl; have zxc2 := has_cell zx 2 rfl; have zxc3 := has_cell zx 3 rfl
  have zxlt := has_lt zx
  have ZAH := Lib.hid za; clear za
  have ZXH := Lib.hid zx; clear zx
  have ZB := Lib.hid zb; clear zb
  go_wp2_with fail
  clear zac0 zac1 zac2 zac3 zalt zxc0 zxc1 zxc2 zxc3 zxlt
  have za := ZAH.out; clear ZAH
  have zx := ZXH.out; clear ZXH
  have zb := ZB.out; clear ZB
  refine (rideI_any _ w19.heap.size b r dAL dAS dcL dcS dR S doA O.length O (Nat.le_refl _) (RD_d.out.in_ (small_copy HSM.out HG_d.out)) HLO.out RI_do.out.il).mono ?_
  rintro e w20 hans
  skip
  replace hans := ride_v hans
  rw [HG_d.out, HV.out] at hans
  obtain ⟨hA, hn, rfl, hP, hb⟩ := hans
  dsimp only at hP ⊢
  have kk := RdCo.call RD_m.out hb; clear RD_m; have RD_m := Lib.hid kk; clear kk
  have kk := RdCo.call RD_d.out hb; clear RD_d; have RD_d := Lib.hid kk; clear kk
  have kk := OI.call RI_mo.out hb; clear RI_mo; have RI_mo := Lib.hid kk; clear kk
  have kk := OI.call RI_p.out hb; clear RI_p; have RI_p := Lib.hid kk; clear kk
  have kk := OI.call RI_g.out hb; clear RI_g; have RI_g := Lib.hid kk; clear kk
  have kk := OI.call RI_yo.out hb; clear RI_yo; have RI_yo := Lib.hid kk; clear kk
  have kk := OI.call RI_do.out hb; clear RI_do; have RI_do := Lib.hid kk; clear kk
  have hsw20 := hb.size
  replace za := has_call za hb
  replace zx := has_call zx hb
  replace zb := bthen zb hb; clear hb
  have RI_h := Lib.hid (OI.of_or hP); clear hP
  have zac0 := has_cell za 0 rfl; have zac1 := has_cell za 1 rfl; have zac2 := has_cell za 2 rfl; have zac3 := has_cell za 3 rfl
  have zalt := has_lt za
  have zxc0 := has_cell zx 0 rfl; have zxc1 := has_cell zx 1 rfl; have zxc2 := has_cell zx 2 rfl; have zxc3 := has_cell zx 3 rfl
  have zxlt := has_lt zx
  have ZAH := Lib.hid za; clear za
  have ZXH := Lib.hid zx; clear zx
  have ZB := Lib.hid zb; clear zb
  go_wp2_with fail
  clear zac0 zac1 zac2 zac3 zalt zxc0 zxc1 zxc2 zxc3 zxlt
  have za := ZAH.out; clear ZAH
  have zx := ZXH.out; clear ZXH
  have zb := ZB.out; clear ZB
  refine (eqIntS_any _ w20.heap.size w20.heap.size hA pA hn pn l hLL (Nat.le_refl _) (Nat.le_refl _) RI_h.out.il RI_p.out.il).mono ?_
  rintro e w21 ⟨rfl, hb⟩
  have kk := RdCo.call RD_m.out hb; clear RD_m; have RD_m := Lib.hid kk; clear kk
  have kk := RdCo.call RD_d.out hb; clear RD_d; have RD_d := Lib.hid kk; clear kk
  have kk := OI.call RI_mo.out hb; clear RI_mo; have RI_mo := Lib.hid kk; clear kk
  have kk := OI.call RI_p.out hb; clear RI_p; have RI_p := Lib.hid kk; clear kk
  have kk := OI.call RI_g.out hb; clear RI_g; have RI_g := Lib.hid kk; clear kk
  have kk := OI.call RI_yo.out hb; clear RI_yo; have RI_yo := Lib.hid kk; clear kk
  have kk := OI.call RI_do.out hb; clear RI_do; have RI_do := Lib.hid kk; clear kk
  have kk := OI.call RI_h.out hb; clear RI_h; have RI_h := Lib.hid kk; clear kk
  have hsw21 := hb.size
  replace za := has_call za hb
  replace zx := has_call zx hb
  replace zb := bthen zb hb; clear hb
  have zac0 := has_cell za 0 rfl; have zac1 := has_cell za 1 rfl; have zac2 := has_cell za 2 rfl; have zac3 := has_cell za 3 rfl
  have zalt := has_lt za
  have zxc0 := has_cell zx 0 rfl; have zxc1 := has_cell zx 1 rfl; have zxc2 := has_cell zx 2 rfl; have zxc3 := has_cell zx 3 rfl
  have zxlt := has_lt zx
  have ZAH := Lib.hid za; clear za
  have ZXH := Lib.hid zx; clear zx
  have ZB := Lib.hid zb; clear zb
  go_wp2_with fail
  clear zac0 zac1 zac2 zac3 zalt zxc0 zxc1 zxc2 zxc3 zxlt
  have za := ZAH.out; clear ZAH
  have zx := ZXH.out; clear ZXH
  have zb := ZB.out; clear ZB
  refine (heldInt_any _ w21.heap.size gA gn l.length 1 (by omega) (by omega) (by omega) (Nat.le_refl _) (by have h9 := RI_g.out.il; exact h9)).mono ?_
  rintro e w22 ⟨rfl, hb⟩
  have kk := RdCo.call RD_m.out hb; clear RD_m; have RD_m := Lib.hid kk; clear kk
  have kk := RdCo.call RD_d.out hb; clear RD_d; have RD_d := Lib.hid kk; clear kk
  have kk := OI.call RI_mo.out hb; clear RI_mo; have RI_mo := Lib.hid kk; clear kk
  have kk := OI.call RI_p.out hb; clear RI_p; have RI_p := Lib.hid kk; clear kk
  have kk := OI.call RI_g.out hb; clear RI_g; have RI_g := Lib.hid kk; clear kk
  have kk := OI.call RI_yo.out hb; clear RI_yo; have RI_yo := Lib.hid kk; clear kk
  have kk := OI.call RI_do.out hb; clear RI_do; have RI_do := Lib.hid kk; clear kk
  have kk := OI.call RI_h.out hb; clear RI_h; have RI_h := Lib.hid kk; clear kk
  have hsw22 := hb.size
  replace za := has_call za hb
  replace zx := has_call zx hb
  replace zb := bthen zb hb; clear hb
  have zac0 := has_cell za 0 rfl; have zac1 := has_cell za 1 rfl; have zac2 := has_cell za 2 rfl; have zac3 := has_cell za 3 rfl
  have zalt := has_lt za
  have zxc0 := has_cell zx 0 rfl; have zxc1 := has_cell zx 1 rfl; have zxc2 := has_cell zx 2 rfl; have zxc3 := has_cell zx 3 rfl
  have zxlt := has_lt zx
  have ZAH := Lib.hid za; clear za
  have ZXH := Lib.hid zx; clear zx
  have ZB := Lib.hid zb; clear zb
  go_wp2_with fail
  clear zac0 zac1 zac2 zac3 zalt zxc0 zxc1 zxc2 zxc3 zxlt
  have za := ZAH.out; clear ZAH
  have zx := ZXH.out; clear ZXH
  have zb := ZB.out; clear ZB
  go_ret
  exact ⟨rfl, zb⟩
end Go.Proofs.Ytnjmkoklekmakaa
